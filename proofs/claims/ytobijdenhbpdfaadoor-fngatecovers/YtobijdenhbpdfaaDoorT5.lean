import Derived.Test.YtobijdenhbpdfaaDoorT4
import Derived.Test.YtobijdenhbpdfaaDoorT3
import Derived.Test.YtobijdenhbpdfaaDoorT3i
namespace Go.Proofs.YtobijdenhbpdfaaDoor
open Go.RowKit Go.Deep

theorem ret_u8 {a b : Int} (h : a = b) : Ending.returned (.int .u8 a) = .returned (.int .u8 b) := by rw [h]
/-- a set of the verbs 1 to 5, a bit each -/
def numB (b1 b2 b3 b4 b5 : Bool) : Int := (if b1 then 2 else 0) + (if b2 then 4 else 0) + (if b3 then 8 else 0) + (if b4 then 16 else 0) + (if b5 then 32 else 0)
theorem numB_or : ∀ a1 a2 a3 a4 a5 c1 c2 c3 c4 c5 : Bool, bits .or .u8 (numB a1 a2 a3 a4 a5) (numB c1 c2 c3 c4 c5) = numB (a1 || c1) (a2 || c2) (a3 || c3) (a4 || c4) (a5 || c5) := by decide +kernel
theorem numB_and : ∀ a1 a2 a3 a4 a5 c1 c2 c3 c4 c5 : Bool, bits .and .u8 (numB a1 a2 a3 a4 a5) (numB c1 c2 c3 c4 c5) = numB (a1 && c1) (a2 && c2) (a3 && c3) (a4 && c4) (a5 && c5) := by decide +kernel
theorem numB_andNot : ∀ a1 a2 a3 a4 a5 c1 c2 c3 c4 c5 : Bool, bits .andNot .u8 (numB a1 a2 a3 a4 a5) (numB c1 c2 c3 c4 c5) = numB (a1 && !c1) (a2 && !c2) (a3 && !c3) (a4 && !c4) (a5 && !c5) := by decide +kernel
theorem numB_zero : ∀ a1 a2 a3 a4 a5 : Bool, (numB a1 a2 a3 a4 a5 == 0) = (!a1 && !a2 && !a3 && !a4 && !a5) := by decide +kernel
def num (p : Int → Bool) : Int := numB (p 1) (p 2) (p 3) (p 4) (p 5)
theorem num_or (p q : Int → Bool) : bits .or .u8 (num p) (num q) = num (fun v => p v || q v) := numB_or _ _ _ _ _ _ _ _ _ _
theorem num_and (p q : Int → Bool) : bits .and .u8 (num p) (num q) = num (fun v => p v && q v) := numB_and _ _ _ _ _ _ _ _ _ _
theorem num_andNot (p q : Int → Bool) : bits .andNot .u8 (num p) (num q) = num (fun v => p v && !q v) := numB_andNot _ _ _ _ _ _ _ _ _ _
theorem num_none : num (fun _ => false) = 0 := rfl
theorem num_congr {p q : Int → Bool} (h : ∀ v, 1 ≤ v → v ≤ 5 → p v = q v) : num p = num q := by
  unfold num; rw [h 1 (by omega) (by omega), h 2 (by omega) (by omega), h 3 (by omega) (by omega), h 4 (by omega) (by omega), h 5 (by omega) (by omega)]
def hasV (L : List Int) (v : Int) : Bool := L.any fun x => x == v
theorem hasV_snoc (L : List Int) (x v : Int) : hasV (L ++ [x]) v = (hasV L v || v == x) := by
  unfold hasV
  rw [List.any_append, List.any_cons, List.any_nil, Bool.or_false]
  have e : (x == v) = (v == x) := by
    rw [Bool.eq_iff_iff, beq_iff_eq, beq_iff_eq]; exact eq_comm
  rw [e]
theorem take_next {L : List Int} {k : Nat} (h : k < L.length) : L.take (k + 1) = L.take k ++ [L[k]] := by rw [List.take_succ_eq_append_getElem h]
theorem hasV_stop {L : List Int} {v : Int} {k : Nat} (h : k < L.length) (hp : (L[k] == v) = true) : hasV L v = true := by
  unfold hasV; rw [List.any_eq_true]; exact ⟨L[k], List.getElem_mem h, hp⟩
theorem hasV_no {L : List Int} {v : Int} (hall : ∀ i (h : i < L.length), (L[i] == v) = false) : hasV L v = false := by
  unfold hasV; rw [List.any_eq_false]
  intro x hx
  obtain ⟨i, hi, rfl⟩ := List.getElem_of_mem hx
  simp [hall i hi]
theorem hasV_mem {L : List Int} {v : Int} : hasV L v = true ↔ v ∈ L := by
  unfold hasV; rw [List.any_eq_true]
  constructor
  · rintro ⟨x, hx, h⟩; rw [beq_iff_eq] at h; subst h; exact hx
  · exact fun h => ⟨v, h, by simp⟩
def beginsB (s p : ByteArray) : Bool := decide ((p.size : Int) ≤ s.size) && ((s.extract 0 p.size).toList == p.toList)
def vAt (L : List Int) (i : Nat) : Bool := match L[i]? with
  | none => false
  | some v => inB 1 5 v && (i == 0 || decide ((L[i - 1]?).getD 0 < v))
def vbsB (L : List Int) : Bool := decide (0 < L.length) && (List.range L.length).all (vAt L)
theorem vAt_zero {L : List Int} (h : 0 < L.length) : vAt L 0 = inB 1 5 L[0] := by unfold vAt; rw [List.getElem?_eq_getElem h]; simp
theorem vAt_succ {L : List Int} {j : Nat} (h : j + 1 < L.length) : vAt L (j + 1) = (inB 1 5 L[j + 1] && decide (L[j] < L[j + 1])) := by
  unfold vAt; rw [List.getElem?_eq_getElem h, Nat.add_sub_cancel, List.getElem?_eq_getElem (by omega)]; simp
theorem vAt_in {L : List Int} {k : Nat} (h : k < L.length) (hb : inB 1 5 L[k] = false) : vAt L k = false := by
  unfold vAt; rw [List.getElem?_eq_getElem h]; simp [hb]
theorem vbs_no {L : List Int} {k : Nat} (hk : k < L.length) (h : vAt L k = false) : vbsB L = false := by
  unfold vbsB; rw [range_not hk h]; simp
theorem vbs_yes {L : List Int} {k : Nat} (hk : L.length ≤ k) (hall : ∀ i, i < k → vAt L i = true) : vbsB L = decide (0 < L.length) := by
  unfold vbsB; rw [range_all (fun i hi => hall i (by omega))]; simp
def ruleB (r : Ru) : Bool := vbsB r.vb && emptyOrName r.kd && emptyOrName r.tm && decide ((r.pf.size : Int) ≤ 16) && allB nameByte r.pf
/-- what of a rule is not its verbs meets what is asked for -/
def matchB (Ts : List Tm) (r : Ru) (kind team name : ByteArray) : Bool :=
  (r.kd.toList.isEmpty || r.kd.toList == kind.toList) && (r.tm.toList.isEmpty || underB Ts team r.tm) && beginsB name r.pf
def givesP (Ts : List Tm) (r : Ru) (kind team name : ByteArray) (v : Int) : Bool := matchB Ts r kind team name && hasV r.vb v
theorem gives_no {Ts : List Tm} {r : Ru} {kind team name : ByteArray} (h : matchB Ts r kind team name = false) : num (givesP Ts r kind team name) = 0 := by
  rw [← num_none]; exact num_congr fun v _ _ => by unfold givesP; rw [h]; rfl
theorem gives_yes {Ts : List Tm} {r : Ru} {kind team name : ByteArray} (h : matchB Ts r kind team name = true) : num (givesP Ts r kind team name) = num (hasV r.vb) :=
  num_congr fun v _ _ => by unfold givesP; rw [h]; rfl
def allowsB (Ts : List Tm) (r : Ru) (v : Int) (kind team name : ByteArray) : Bool := teamsB Ts && ruleB r && givesP Ts r kind team name v
/-- the verbs of a rule that is ok -/
theorem vbs_in {L : List Int} (h : vbsB L = true) {v : Int} (hv : hasV L v = true) : 1 ≤ v ∧ v ≤ 5 := by
  unfold vbsB at h
  rw [Bool.and_eq_true] at h
  obtain ⟨k, hk, rfl⟩ := List.getElem_of_mem (hasV_mem.1 hv)
  have := range_is hk h.2
  unfold vAt at this
  rw [List.getElem?_eq_getElem hk] at this
  simp [inB] at this
  omega
theorem rule_vbs {r : Ru} (h : ruleB r = true) : vbsB r.vb = true := by
  unfold ruleB at h
  simp only [Bool.and_eq_true] at h
  exact h.1.1.1.1

set_option maxHeartbeats 400000 in
theorem verb_any (v : Int) (w : World) : Calls Tryd.prog 54 #[.int .i64 v] w fun e w' => e = .returned (.int .u8 (num fun u => u == v)) ∧ w' = w := by
  by_cases h1 : v < 1
  · have HR : Hid (num (fun u => u == v) = 0) := by
      unfold Hid; rw [← num_none]; exact num_congr fun u _ _ => by simp; omega
    go_enter Tryd.func54, Tryd.ntmps54
    go_wp2
    go_ret
    exact ⟨ret_u8 HR.out.symm, rfl⟩
  by_cases h5 : 5 < v
  · have HR : Hid (num (fun u => u == v) = 0) := by
      unfold Hid; rw [← num_none]; exact num_congr fun u _ _ => by simp; omega
    go_enter Tryd.func54, Tryd.ntmps54
    go_wp2
    go_ret
    exact ⟨ret_u8 HR.out.symm, rfl⟩
  have hc : v = 1 ∨ v = 2 ∨ v = 3 ∨ v = 4 ∨ v = 5 := by omega
  clear h1 h5
  rcases hc with rfl | rfl | rfl | rfl | rfl
  all_goals
    go_enter Tryd.func54, Tryd.ntmps54
    go_wp2
    go_ret
    exact ⟨ret_u8 (by decide +kernel), rfl⟩

set_option maxHeartbeats 400000 in
theorem hasMask_any (p : Int → Bool) (v : Int) (w : World) : Calls Tryd.prog 50 #[.int .u8 (num p), .int .i64 v] w fun e w' => e = .returned (.bool (inB 1 5 v && p v)) ∧ w' = w := by
  have HR : Hid ((bits .and .u8 (num p) (num fun u => u == v) != 0) = (inB 1 5 v && p v)) := by
    unfold Hid
    rw [num_and, bne, show num (fun u => p u && u == v) = numB (p 1 && 1 == v) (p 2 && 2 == v) (p 3 && 3 == v) (p 4 && 4 == v) (p 5 && 5 == v) from rfl, numB_zero]
    by_cases hc : v = 1 ∨ v = 2 ∨ v = 3 ∨ v = 4 ∨ v = 5
    · rcases hc with rfl | rfl | rfl | rfl | rfl <;> simp [inB]
    · have q : inB 1 5 v = false := by unfold inB; simp; omega
      rw [q]
      have e1 : ((1 : Int) == v) = false := by simp; omega
      have e2 : ((2 : Int) == v) = false := by simp; omega
      have e3 : ((3 : Int) == v) = false := by simp; omega
      have e4 : ((4 : Int) == v) = false := by simp; omega
      have e5 : ((5 : Int) == v) = false := by simp; omega
      simp [e1, e2, e3, e4, e5]
  go_enter Tryd.func50, Tryd.ntmps50
  go_wp2_with fail
  refine (verb_any v _).mono ?_
  rintro e w1 ⟨rfl, rfl⟩
  generalize hx : num p = x at *
  generalize hy : num (fun u => u == v) = y at *
  go_wp2
  go_ret
  exact ⟨ret_bool HR.out, rfl⟩

set_option maxHeartbeats 1000000 in
theorem verbsOf_any (lo : Nat) (v : Value) (L : List Int) (w : World) (hv : IntsIn lo w v L) :
    Calls Tryd.prog 34 #[v] w fun e w' => e = .returned (.int .u8 (num (hasV L))) ∧ w' = w := by
  by_cases hL : L = []
  · subst hL
    obtain ⟨a, cap, rfl⟩ := hv.form
    clear hv
    go_enter Tryd.func34, Tryd.ntmps34
    go_wp2
    go_loop [3, 8] (fun x i => x = .int .u8 0 ∧ i = .int .i64 0) (fun _ _ => 0)
    case atStart => exact ⟨rfl, rfl⟩
    case round =>
      obtain ⟨rfl, rfl⟩ := hrel
      go_wp2
      go_ret
      exact ⟨rfl, rfl⟩
  · obtain ⟨b, off, cap, rfl, hm, hbw, hc⟩ := hv.full hL
    clear hv
    unfold maxLen at hm
    go_enter Tryd.func34, Tryd.ntmps34
    go_wp2
    go_loop [3, 8] (fun x i => ∃ k : Nat, x = .int .u8 (num (hasV (L.take k))) ∧ i = .int .i64 k ∧ k ≤ L.length) (fun _ i => L.length - (intOf i).toNat)
    case atStart => exact ⟨0, rfl, rfl, by omega⟩
    case round =>
      obtain ⟨k, rfl, rfl, hk⟩ := hrel
      by_cases hlt : k < L.length
      · have c0 := hc k hlt
        have HN : Hid (bits .or .u8 (num (hasV (L.take k))) (num fun u => u == L[k]) = num (hasV (L.take (k + 1)))) := by
          unfold Hid
          rw [num_or]
          exact num_congr fun u _ _ => by rw [take_next hlt, hasV_snoc]
        generalize hx : num (hasV (L.take k)) = x at *
        go_wp2_with fail
        refine (verb_any _ _).mono ?_
        rintro e w1 ⟨rfl, rfl⟩
        generalize hy : num (fun u => u == L[k]) = y at *
        go_wp2
        go_round
        case rel => exact ⟨k + 1, by rw [HN.out], by go_num, by omega⟩
        case measure => simp [intOf]; omega
      · have HN : Hid (num (hasV (L.take k)) = num (hasV L)) := by unfold Hid; rw [List.take_of_length_le (by omega)]
        generalize hx : num (hasV (L.take k)) = x at *
        go_wp2
        go_ret
        exact ⟨ret_u8 HN.out, rfl⟩
end Go.Proofs.YtobijdenhbpdfaaDoor

