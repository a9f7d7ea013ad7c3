import Derived.Test.YtmaagbnjpdijnaaT4
import Derived.Test.YtmaagbnjpdijnaaT3
import Derived.Test.YtmaagbnjpdijnaaT3i
namespace Go.Proofs.Ytmaagbnjpdijnaa
open Go.RowKit Go.Deep

theorem ret_u8 {a b : Int} (h : a = b) : Ending.returned (.int .u8 a) = .returned (.int .u8 b) := by rw [h]
/-- a set of the verbs 1 to 5, a bit each -/
def numB (b1 b2 b3 b4 b5 : Bool) : Int := (if b1 then 2 else 0) + (if b2 then 4 else 0) + (if b3 then 8 else 0) + (if b4 then 16 else 0) + (if b5 then 32 else 0)
theorem numB_or : ∀ a1 a2 a3 a4 a5 c1 c2 c3 c4 c5 : Bool, bits .or .u8 (numB a1 a2 a3 a4 a5) (numB c1 c2 c3 c4 c5) = numB (a1 || c1) (a2 || c2) (a3 || c3) (a4 || c4) (a5 || c5) := by decide +kernel
theorem numB_and : ∀ a1 a2 a3 a4 a5 c1 c2 c3 c4 c5 : Bool, bits .and .u8 (numB a1 a2 a3 a4 a5) (numB c1 c2 c3 c4 c5) = numB (a1 && c1) (a2 && c2) (a3 && c3) (a4 && c4) (a5 && c5) := by decide +kernel
theorem numB_andNot : ∀ a1 a2 a3 a4 a5 c1 c2 c3 c4 c5 : Bool, bits .andNot .u8 (numB a1 a2 a3 a4 a5) (numB c1 c2 c3 c4 c5) = numB (a1 && !c1) (a2 && !c2) (a3 && !c3) (a4 && !c4) (a5 && !c5) := by decide +kernel
theorem numB_zero : ∀ a1 a2 a3 a4 a5 : Bool, (numB a1 a2 a3 a4 a5 == 0) = (!a1 && !a2 && !a3 && !a4 && !a5) := by decide +kernel
def num (p : Int → Bool) : Int := numB (p 1) (p 2) (p 3) (p 4) (p 5)
theorem num_or (p q : Int → Bool) : bits .or .u8 (num p) (num q) = num (fun v => p v || q v) := numB_or _ _ _ _ _ _ _ _ _ _
theorem num_and (p q : Int → Bool) : bits .and .u8 (num p) (num q) = num (fun v => p v && q v) := numB_and _ _ _ _ _ _ _ _ _ _
theorem num_andNot (p q : Int → Bool) : bits .andNot .u8 (num p) (num q) = num (fun v => p v && !q v) := numB_andNot _ _ _ _ _ _ _ _ _ _
theorem num_none : num (fun _ => false) = 0 := rfl
theorem num_congr {p q : Int → Bool} (h : ∀ v, 1 ≤ v → v ≤ 5 → p v = q v) : num p = num q := by
  unfold num; rw [h 1 (by omega) (by omega), h 2 (by omega) (by omega), h 3 (by omega) (by omega), h 4 (by omega) (by omega), h 5 (by omega) (by omega)]
def hasV (L : List Int) (v : Int) : Bool := L.any fun x => x == v
theorem hasV_snoc (L : List Int) (x v : Int) : hasV (L ++ [x]) v = (hasV L v || v == x) := by
  unfold hasV
  rw [List.any_append, List.any_cons, List.any_nil, Bool.or_false]
  have e : (x == v) = (v == x) := by
    rw [Bool.eq_iff_iff, beq_iff_eq, beq_iff_eq]; exact eq_comm
  rw [e]
theorem take_next {L : List Int} {k : Nat} (h : k < L.length) : L.take (k + 1) = L.take k ++ [L[k]] := by rw [List.take_succ_eq_append_getElem h]
theorem hasV_stop {L : List Int} {v : Int} {k : Nat} (h : k < L.length) (hp : (L[k] == v) = true) : hasV L v = true := by
  unfold hasV; rw [List.any_eq_true]; exact ⟨L[k], List.getElem_mem h, hp⟩
theorem hasV_no {L : List Int} {v : Int} (hall : ∀ i (h : i < L.length), (L[i] == v) = false) : hasV L v = false := by
  unfold hasV; rw [List.any_eq_false]
  intro x hx
  obtain ⟨i, hi, rfl⟩ := List.getElem_of_mem hx
  simp [hall i hi]
theorem hasV_mem {L : List Int} {v : Int} : hasV L v = true ↔ v ∈ L := by
  unfold hasV; rw [List.any_eq_true]
  constructor
  · rintro ⟨x, hx, h⟩; rw [beq_iff_eq] at h; subst h; exact hx
  · exact fun h => ⟨v, h, by simp⟩
def beginsB (s p : ByteArray) : Bool := decide ((p.size : Int) ≤ s.size) && ((s.extract 0 p.size).toList == p.toList)
def vAt (L : List Int) (i : Nat) : Bool := match L[i]? with
  | none => false
  | some v => inB 1 5 v && (i == 0 || decide ((L[i - 1]?).getD 0 < v))
def vbsB (L : List Int) : Bool := decide (0 < L.length) && (List.range L.length).all (vAt L)
theorem vAt_zero {L : List Int} (h : 0 < L.length) : vAt L 0 = inB 1 5 L[0] := by unfold vAt; rw [List.getElem?_eq_getElem h]; simp
theorem vAt_succ {L : List Int} {j : Nat} (h : j + 1 < L.length) : vAt L (j + 1) = (inB 1 5 L[j + 1] && decide (L[j] < L[j + 1])) := by
  unfold vAt; rw [List.getElem?_eq_getElem h, Nat.add_sub_cancel, List.getElem?_eq_getElem (by omega)]; simp
theorem vAt_in {L : List Int} {k : Nat} (h : k < L.length) (hb : inB 1 5 L[k] = false) : vAt L k = false := by
  unfold vAt; rw [List.getElem?_eq_getElem h]; simp [hb]
theorem vbs_no {L : List Int} {k : Nat} (hk : k < L.length) (h : vAt L k = false) : vbsB L = false := by
  unfold vbsB; rw [range_not hk h]; simp
theorem vbs_yes {L : List Int} {k : Nat} (hk : L.length ≤ k) (hall : ∀ i, i < k → vAt L i = true) : vbsB L = decide (0 < L.length) := by
  unfold vbsB; rw [range_all (fun i hi => hall i (by omega))]; simp
def ruleB (r : Ru) : Bool := vbsB r.vb && emptyOrName r.kd && emptyOrName r.tm && decide ((r.pf.size : Int) ≤ 16) && allB nameByte r.pf
/-- what of a rule is not its verbs meets what is asked for -/
def matchB (Ts : List Tm) (r : Ru) (kind team name : ByteArray) : Bool :=
  (r.kd.toList.isEmpty || r.kd.toList == kind.toList) && (r.tm.toList.isEmpty || underB Ts team r.tm) && beginsB name r.pf
def givesP (Ts : List Tm) (r : Ru) (kind team name : ByteArray) (v : Int) : Bool := matchB Ts r kind team name && hasV r.vb v
theorem gives_no {Ts : List Tm} {r : Ru} {kind team name : ByteArray} (h : matchB Ts r kind team name = false) : num (givesP Ts r kind team name) = 0 := by
  rw [← num_none]; exact num_congr fun v _ _ => by unfold givesP; rw [h]; rfl
theorem gives_yes {Ts : List Tm} {r : Ru} {kind team name : ByteArray} (h : matchB Ts r kind team name = true) : num (givesP Ts r kind team name) = num (hasV r.vb) :=
  num_congr fun v _ _ => by unfold givesP; rw [h]; rfl
def allowsB (Ts : List Tm) (r : Ru) (v : Int) (kind team name : ByteArray) : Bool := teamsB Ts && ruleB r && givesP Ts r kind team name v
/-- the verbs of a rule that is ok -/
theorem vbs_in {L : List Int} (h : vbsB L = true) {v : Int} (hv : hasV L v = true) : 1 ≤ v ∧ v ≤ 5 := by
  unfold vbsB at h
  rw [Bool.and_eq_true] at h
  obtain ⟨k, hk, rfl⟩ := List.getElem_of_mem (hasV_mem.1 hv)
  have := range_is hk h.2
  unfold vAt at this
  rw [List.getElem?_eq_getElem hk] at this
  simp [inB] at this
  omega
theorem rule_vbs {r : Ru} (h : ruleB r = true) : vbsB r.vb = true := by
  unfold ruleB at h
  simp only [Bool.and_eq_true] at h
  exact h.1.1.1.1

end Go.Proofs.Ytmaagbnjpdijnaa

