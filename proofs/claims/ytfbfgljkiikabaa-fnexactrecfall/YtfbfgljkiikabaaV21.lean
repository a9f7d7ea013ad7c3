import Derived.Test.YtfbfgljkiikabaaV14
import Derived.Test.YtfbfgljkiikabaaV20
import Derived.Sort.Walk0
import Derived.ProofKit
import Derived.Deep.Strs
import Derived.Deep.RegionHeld
import Derived.ChangeSlices
namespace Go.Proofs.Ytfbfgljkiikabaa
open Go.RowKit Go.Deep

/-- a thing's inner list, apart from the row's own block g -/
def InA (w : World) (lo hi g : Nat) (x : AX) : Prop := ∃ l u, lo ≤ l ∧ l ≤ u ∧ u ≤ hi ∧ (g < l ∨ u ≤ g) ∧ FRow inL 1 w l u (.slice x.2.1 x.1.fr.length x.2.2) x.1.fr
/-- a row that grows, its inner lists apart from each other, all of it in [lo, hi) -/
structure AR (w : World) (lo hi g : Nat) (v : Value) (L : List AX) : Prop where
  row : FRow axL 2 w g (g + 1) v L
  low : lo ≤ g
  up : g < hi
  inn : ∃ c : Nat → Nat × Nat, (∀ i, i < L.length → lo ≤ (c i).1 ∧ (c i).1 ≤ (c i).2 ∧ (c i).2 ≤ hi ∧ (g < (c i).1 ∨ (c i).2 ≤ g)) ∧ (∀ i j, i < L.length → j < L.length → i ≠ j → (c i).2 ≤ (c j).1 ∨ (c j).2 ≤ (c i).1) ∧ ∀ i (h : i < L.length), FRow inL 1 w (c i).1 (c i).2 (.slice L[i].2.1 L[i].1.fr.length L[i].2.2) L[i].1.fr
theorem AR.below {w w' : World} {lo hi g : Nat} {v : Value} {L : List AX} (h : AR w lo hi g v L) (hb : Below w.heap.size w w') : AR w' lo hi g v L := by
  obtain ⟨c, h1, h2, h3⟩ := h.inn
  exact ⟨h.row.below hb, h.low, h.up, c, h1, h2, fun i hi => (h3 i hi).below hb⟩
theorem AR.wide {w : World} {lo hi hi' g : Nat} {v : Value} {L : List AX} (h : AR w lo hi g v L) (hh : hi ≤ hi') : AR w lo hi' g v L := by
  obtain ⟨c, h1, h2, h3⟩ := h.inn
  exact ⟨h.row, h.low, Nat.lt_of_lt_of_le h.up hh, c, fun i hi => ⟨(h1 i hi).1, (h1 i hi).2.1, Nat.le_trans (h1 i hi).2.2.1 hh, (h1 i hi).2.2.2⟩, h2, h3⟩
theorem AR.touch {w w' : World} {lo hi g : Nat} {v : Value} {L : List AX} (h : AR w lo hi g v L) {lo' hi' : Nat} (ht : Touch lo' hi' w w') (hh : hi ≤ lo' ∨ hi' ≤ lo) : AR w' lo hi g v L := by
  obtain ⟨c, h1, h2, h3⟩ := h.inn
  exact ⟨h.row.touch ht (by have := h.low; have := h.up; omega), h.low, h.up, c, h1, h2, fun i hi => (h3 i hi).touch ht (by have := h1 i hi; omega)⟩
theorem AR.lt {w : World} {lo hi g : Nat} {v : Value} {L : List AX} (h : AR w lo hi g v L) : g < w.heap.size := by
  obtain ⟨g', cap, -, hr⟩ := h.row
  have h1 := hr.bs
  have h2 := hr.up
  have h3 := hr.lt
  omega
/-- behind an append of one more, its inner list behind all that was there -/
theorem AR.snoc {W W' : World} {lo n g : Nat} {v v' : Value} {L : List AX} {x : AX} (h : AR W lo n g v L) (_hn : n ≤ W.heap.size) (hx : InA W n W.heap.size g x) (ht : Touch g (g + 1) W W') (hf : FRow axL 2 W' g (g + 1) v' (L ++ [x]) ∨ FRow axL 2 W' W.heap.size W'.heap.size v' (L ++ [x])) (hlo : lo ≤ n) : ∃ g', AR W' lo W'.heap.size g' v' (L ++ [x]) := by
  obtain ⟨c, h1, h2, h3⟩ := h.inn
  obtain ⟨l, u, x1, x2, x3, x4, x5⟩ := hx
  have hsz := ht.size
  have hll : (L ++ [x]).length = L.length + 1 := by simp
  obtain ⟨d, hd⟩ : ∃ d : Nat → Nat × Nat, d = fun i => if i = L.length then (l, u) else c i := ⟨_, rfl⟩
  have e1 : ∀ i, i < L.length → d i = c i := fun i hi => by rw [hd]; exact if_neg (by omega)
  have e2 : d L.length = (l, u) := by rw [hd]; exact if_pos rfl
  have seg : ∀ i, i < (L ++ [x]).length → lo ≤ (d i).1 ∧ (d i).1 ≤ (d i).2 ∧ (d i).2 ≤ W.heap.size ∧ (g < (d i).1 ∨ (d i).2 ≤ g) := fun i hi => by
    by_cases q : i < L.length
    · rw [e1 i q]; have := h1 i q; omega
    · rw [show i = L.length by omega, e2]; exact ⟨by omega, x2, x3, x4⟩
  have ap : ∀ i j, i < (L ++ [x]).length → j < (L ++ [x]).length → i ≠ j → (d i).2 ≤ (d j).1 ∨ (d j).2 ≤ (d i).1 := fun i j hi hj hne => by
    by_cases q : i < L.length
    · by_cases r : j < L.length
      · rw [e1 i q, e1 j r]; exact h2 i j q r hne
      · rw [e1 i q, show j = L.length by omega, e2]; have := h1 i q; simp only []; omega
    · rw [show i = L.length by omega, e2, e1 j (by omega)]; have := h1 j (by omega); simp only []; omega
  have inn : ∀ i (hi : i < (L ++ [x]).length), FRow inL 1 W' (d i).1 (d i).2 (.slice (L ++ [x])[i].2.1 (L ++ [x])[i].1.fr.length (L ++ [x])[i].2.2) (L ++ [x])[i].1.fr := fun i hi => by
    have hs := seg i hi
    refine FRow.touch ?_ ht (by omega)
    by_cases q : i < L.length
    · rw [e1 i q, List.getElem_append_left q]; exact h3 i q
    · have e : i = L.length := by omega
      subst e
      have ex : (L ++ [x])[L.length] = x := by simp
      rw [e2, ex]; exact x5
  rcases hf with hf | hf
  · exact ⟨g, hf, h.low, by have := h.up; omega, d, fun i hi => by have := seg i hi; omega, ap, inn⟩
  · obtain ⟨g', cap, q1, q2⟩ := hf
    have hbs := q2.bs
    exact ⟨g', ⟨g', cap, q1, q2.own⟩, by omega, q2.lt, d, fun i hi => by have := seg i hi; omega, ap, inn⟩
theorem AR.ras {w : World} {lo hi g : Nat} {v : Value} {L : List AX} {Xl : List Ra} (h : AR w lo hi g v L) (hL : L.map (·.1) = Xl) : RasAt lo w v Xl := by
  subst hL
  refine h.row.ras h.low fun i hi => ?_
  obtain ⟨c, h1, h2, h3⟩ := h.inn
  exact (h3 i hi).ris.at.mono (h1 i hi).1
end Go.Proofs.Ytfbfgljkiikabaa
namespace Go.Proofs.Ytfbfgljkiikabaa
open Go.RowKit Go.Deep

def svF (L : List Sv) (s : ByteArray) : Option Sv := L.find? fun x => x.nm.toList == s.toList
def hasBe (L : List Be) (s : ByteArray) : Bool := L.any fun x => x.nm.toList == s.toList
def cpT (B : Sb) (c : Cp) (x : Sv) : Bool := inB 1 (x.nx - 1) c.nu && (inB 1 B.now c.ve && (inB 1 1000000 c.im && (inB 1 4 c.st && (if c.st == 1 then c.be.toList.isEmpty else hasBe B.bs c.be))))
def cpB (B : Sb) (c : Cp) : Bool := match svF B.ss c.se with
  | none => false
  | some x => cpT B c x
def aheadB (a b : Cp) : Bool := Op.bytesLess a.se.toList b.se.toList || ((a.se.toList == b.se.toList) && decide (a.nu < b.nu))
/-- each stands behind the one ahead of it -/
def risN {X : Type} (r : X → X → Bool) (L : List X) : Nat → Bool
  | 0 => true
  | j + 1 => match L[j]?, L[j + 1]? with
    | some x, some y => r x y
    | _, _ => true
def risR {X : Type} (r : X → X → Bool) (L : List X) : Bool := (List.range L.length).all (risN r L)
theorem risN_at {X : Type} {r : X → X → Bool} {L : List X} {j : Nat} (h : j + 1 < L.length) : risN r L (j + 1) = r L[j] L[j + 1] := by
  show (match L[j]?, L[j + 1]? with | some x, some y => r x y | _, _ => true) = _
  rw [List.getElem?_eq_getElem (by omega), List.getElem?_eq_getElem h]
def rSv (x y : Sv) : Bool := Op.bytesLess x.nm.toList y.nm.toList
def rBe (x y : Be) : Bool := Op.bytesLess x.nm.toList y.nm.toList
def beB (x : Be) : Bool := nmB x.nm
/-- where a service stands; whether a berth is there -/
def svI (L : List Sv) (s : ByteArray) : Nat := L.findIdx fun x => x.nm.toList == s.toList
def SvPl (L : List Sv) (s : ByteArray) (r : Int) : Prop := (r = -1 ∧ svF L s = none) ∨ (r = (svI L s : Int) ∧ ∃ (h : svI L s < L.length), svF L s = some L[svI L s])
def BePl (L : List Be) (s : ByteArray) (r : Int) : Prop := decide (0 ≤ r) = hasBe L s
/-- a valid book -/
def validB (B : Sb) : Bool := inB 0 1000000 B.now && (decide (B.ss.length ≤ 8) && (decide (B.cs.length ≤ 200) && (decide (B.bs.length ≤ 6) && ((B.ss.all (svB B.now) && risR rSv B.ss) && ((B.bs.all beB && risR rBe B.bs) && (B.cs.all (cpB B) && risR aheadB B.cs))))))
theorem zall_no {X : Type} {L : List X} {f : X → Bool} {k : Nat} (hk : k < L.length) (h : f L[k] = false) : L.all f = false := by
  rw [List.all_eq_false]
  exact ⟨L[k], List.getElem_mem hk, by simp [h]⟩
theorem zall_yes {X : Type} {L : List X} {f : X → Bool} (h : ∀ i (h : i < L.length), f L[i] = true) : L.all f = true := by
  rw [List.all_eq_true]
  intro x hx
  obtain ⟨i, hi, rfl⟩ := List.getElem_of_mem hx
  exact h i hi
theorem zall_at {X : Type} {L : List X} {f : X → Bool} (h : L.all f = true) {k : Nat} (hk : k < L.length) : f L[k] = true := List.all_eq_true.1 h _ (List.getElem_mem hk)
theorem zstep_all {X : Type} {L : List X} {f : X → Bool} {k : Nat} (hall : ∀ j (h : j < L.length), j < k → f L[j] = true) (hk : k < L.length) (h : f L[k] = true) : ∀ j (h : j < L.length), j < k + 1 → f L[j] = true := fun j hj hjk => by
  by_cases e : j = k
  · subst e; exact h
  · exact hall j hj (by omega)
theorem find_at {X : Type} {L : List X} {f : X → Bool} {k : Nat} (hk : k < L.length) (hno : ∀ j (h : j < L.length), j < k → f L[j] = false) (h : f L[k] = true) : L.find? f = some L[k] := by
  rw [List.find?_eq_some_iff_getElem]
  exact ⟨h, k, hk, rfl, fun j hj => by rw [hno j (by omega) hj]; rfl⟩
theorem idx_at {X : Type} {L : List X} {f : X → Bool} {k : Nat} (hk : k < L.length) (hno : ∀ j (h : j < L.length), j < k → f L[j] = false) (h : f L[k] = true) : L.findIdx f = k := (List.findIdx_eq hk).2 ⟨h, fun j hj => hno j (by omega) hj⟩
theorem SvPl.at {L : List Sv} {s : ByteArray} {k : Nat} (hk : k < L.length) (hno : ∀ j (h : j < L.length), j < k → (L[j].nm.toList == s.toList) = false) (h : (L[k].nm.toList == s.toList) = true) : SvPl L s (k : Int) := by
  have hi : svI L s = k := idx_at (f := fun x : Sv => x.nm.toList == s.toList) hk hno h
  refine Or.inr ?_
  rw [hi]
  exact ⟨rfl, hk, find_at (f := fun x : Sv => x.nm.toList == s.toList) hk hno h⟩
theorem find_none {X : Type} {L : List X} {f : X → Bool} (hno : ∀ j (h : j < L.length), f L[j] = false) : L.find? f = none := by
  rw [List.find?_eq_none]
  intro x hx
  obtain ⟨i, hi, rfl⟩ := List.getElem_of_mem hx
  rw [hno i hi]; exact Bool.false_ne_true
theorem any_at {X : Type} {L : List X} {f : X → Bool} {k : Nat} (hk : k < L.length) (h : f L[k] = true) : L.any f = true := List.any_eq_true.2 ⟨_, List.getElem_mem hk, h⟩
theorem any_none {X : Type} {L : List X} {f : X → Bool} (hno : ∀ j (h : j < L.length), f L[j] = false) : L.any f = false := by
  rw [List.any_eq_false]
  intro x hx
  obtain ⟨i, hi, rfl⟩ := List.getElem_of_mem hx
  rw [hno i hi]; exact Bool.false_ne_true
theorem svB_nx {now : Int} {x : Sv} (h : svB now x = true) : 1 ≤ x.nx ∧ x.nx ≤ 1000000 := by
  unfold svB at h
  simp only [Bool.and_eq_true] at h
  have := h.2.2.2.1
  exact ⟨inB_lo this, inB_hi this⟩
end Go.Proofs.Ytfbfgljkiikabaa
namespace Go.Proofs.Ytfbfgljkiikabaa
open Go.RowKit Go.Deep

/-- how two texts stand to each other -/
def cmpS (a b : ByteArray) : Int := if Op.bytesLess a.toList b.toList = true then -1 else if (a.toList == b.toList) = true then 0 else 1
theorem less_irrefl (a : List UInt8) : Op.bytesLess a a = false := by rw [bytesLess_eq]; exact decide_eq_false (List.lt_irrefl _)
theorem less_asymm {a b : List UInt8} (h : Op.bytesLess a b = true) : Op.bytesLess b a = false := by
  rw [bytesLess_eq] at h ⊢
  exact decide_eq_false (fun h' => List.lt_irrefl _ (List.lt_trans (of_decide_eq_true h) h'))
theorem less_trans {a b c : List UInt8} (h : Op.bytesLess a b = true) (h' : Op.bytesLess b c = true) : Op.bytesLess a c = true := by
  rw [bytesLess_eq] at h h' ⊢
  exact decide_eq_true (List.lt_trans (of_decide_eq_true h) (of_decide_eq_true h'))
theorem less_tri {a b : List UInt8} (h : Op.bytesLess a b = false) (h' : Op.bytesLess b a = false) : a = b := by
  rw [bytesLess_eq] at h h'
  exact List.le_antisymm (List.not_lt.1 (of_decide_eq_false h')) (List.not_lt.1 (of_decide_eq_false h))
theorem toList_inj {a b : ByteArray} (h : a.toList = b.toList) : a = b := bytes_eq.1 (by rw [h]; simp)
theorem cmpS_self (a : ByteArray) : cmpS a a = 0 := by unfold cmpS; simp [less_irrefl]
theorem cmpS_zero {a b : ByteArray} : cmpS a b = 0 ↔ a = b := by
  refine ⟨fun h => ?_, fun h => by rw [h]; exact cmpS_self _⟩
  unfold cmpS at h
  split at h
  · omega
  · split at h
    · rename_i h2
      exact bytes_eq.1 h2
    · omega
theorem cmpS_neg {a b : ByteArray} : cmpS a b < 0 ↔ Op.bytesLess a.toList b.toList = true := by
  unfold cmpS
  split
  · rename_i h; simp [h]
  · rename_i h
    split <;> simp [h]
theorem cmpS_pos {a b : ByteArray} : 0 < cmpS a b ↔ Op.bytesLess b.toList a.toList = true := by
  unfold cmpS
  split
  · rename_i h; simp [less_asymm h]
  · rename_i h
    split
    · rename_i h2
      rw [bytes_eq.1 h2]; simp [less_irrefl]
    · rename_i h2
      have : Op.bytesLess b.toList a.toList = true := by
        cases h3 : Op.bytesLess b.toList a.toList with
        | true => rfl
        | false => exact absurd (bytes_eq.2 (toList_inj (less_tri (by simpa using h) h3))) h2
      simp [this]
theorem cmpS_bd (a b : ByteArray) : -1 ≤ cmpS a b ∧ cmpS a b ≤ 1 := by unfold cmpS; split <;> (try split) <;> omega
/-- the first that is not 0 -/
def orI (a b : Int) : Int := if a = 0 then b else a
theorem orI_zero {a b : Int} : orI a b = 0 ↔ a = 0 ∧ b = 0 := by unfold orI; split <;> omega
theorem orI_bd {a b : Int} (h : -1 ≤ a ∧ a ≤ 1) (h' : -1 ≤ b ∧ b ≤ 1) : -1 ≤ orI a b ∧ orI a b ≤ 1 := by unfold orI; split <;> omega

/-- the first of a list that is not 0 -/
def orL : List Int → Int
  | [] => 0
  | x :: r => if x = 0 then orL r else x
theorem orL_skip {L : List Int} {k : Nat} (hk : k < L.length) (h : L[k] = 0) : orL (L.drop k) = orL (L.drop (k + 1)) := by
  rw [List.drop_eq_getElem_cons hk, orL, if_pos h]
theorem orL_stop {L : List Int} {k : Nat} (hk : k < L.length) (h : L[k] ≠ 0) : orL (L.drop k) = L[k] := by
  rw [List.drop_eq_getElem_cons hk, orL, if_neg h]

theorem orL_two (a b : Int) : orL [a, b] = orI a b := by simp only [orL]; unfold orI; split <;> (try split) <;> omega
def cmpI (a b : Int) : Int := if a < b then -1 else if b < a then 1 else 0
theorem cmpI_neg {a b : Int} : cmpI a b < 0 ↔ a < b := by unfold cmpI; split <;> (try split) <;> omega
theorem nanI_any (a : Int) (w : World) : Calls Try.prog 100 #[.int .i64 a] w fun e w' => e = .returned (.bool false) ∧ w' = w := by
  go_enter Try.func100, Try.ntmps100
  go_wp2
  go_ret
  exact ⟨rfl, rfl⟩
set_option maxHeartbeats 400000 in
theorem cmpInt_any (a b : Int) (w : World) :
    Calls Try.prog 99 #[.int .i64 a, .int .i64 b] w fun e w' => e = .returned (.int .i64 (cmpI a b)) ∧ w' = w := by
  by_cases h1 : a < b
  · have HE : Hid (cmpI a b = -1) := if_pos h1
    go_enter Try.func99, Try.ntmps99
    go_wp2_with (go_at_call 100; refine (nanI_any _ _).mono ?_; rintro e w' ⟨rfl, rfl⟩)
    go_ret
    exact ⟨ret_int HE.out.symm, rfl⟩
  · by_cases h2 : b < a
    · have HE : Hid (cmpI a b = 1) := by unfold Hid cmpI; rw [if_neg h1, if_pos h2]
      go_enter Try.func99, Try.ntmps99
      go_wp2_with (go_at_call 100; refine (nanI_any _ _).mono ?_; rintro e w' ⟨rfl, rfl⟩)
      go_ret
      exact ⟨ret_int HE.out.symm, rfl⟩
    · have HE : Hid (cmpI a b = 0) := by unfold Hid cmpI; rw [if_neg h1, if_neg h2]
      go_enter Try.func99, Try.ntmps99
      go_wp2_with (go_at_call 100; refine (nanI_any _ _).mono ?_; rintro e w' ⟨rfl, rfl⟩)
      go_ret
      exact ⟨ret_int HE.out.symm, rfl⟩
theorem within_any (n lo hi : Int) (w : World) :
    Calls Try.prog 19 #[.int .i64 n, .int .i64 lo, .int .i64 hi] w fun e w' => e = .returned (.bool (inB lo hi n)) ∧ w' = w := by
  rw [inB_eq]
  by_cases h : lo ≤ n
  · by_cases h2 : n ≤ hi
    · go_enter Try.func19, Try.ntmps19
      go_wp2
      go_ret
      exact ⟨by rw [decide_eq_true h, decide_eq_true h2]; rfl, rfl⟩
    · go_enter Try.func19, Try.ntmps19
      go_wp2
      go_ret
      exact ⟨by simp [h2], rfl⟩
  · go_enter Try.func19, Try.ntmps19
    go_wp2
    go_ret
    exact ⟨by rw [decide_eq_false (show ¬ lo ≤ n by omega)]; rfl, rfl⟩

end Go.Proofs.Ytfbfgljkiikabaa
namespace Go.Proofs.Ytfbfgljkiikabaa
open Go.RowKit Go.Deep

theorem NRow.rts {w : World} {lo hi : Nat} {v : Value} {L : List ByteArray} (h : NRow tyL 1 w lo hi v L) (hz : ∀ i (h : i < L.length), L[i].size ≤ maxLen) : RtsOwn lo hi w v L := by
  rcases h with ⟨h, rfl⟩ | h
  · exact Or.inl ⟨_, _, h, rfl⟩
  · exact h.rts hz
theorem NRow.ris {w : World} {lo hi : Nat} {v : Value} {L : List Int} (h : NRow inL 1 w lo hi v L) : RisOwn lo hi w v L := by
  rcases h with ⟨h, rfl⟩ | h
  · exact Or.inl ⟨_, _, h, rfl⟩
  · exact h.ris
/-- lists of things that have a list of their own inside (P x w lo hi: the list inside x lies in [lo, hi)), each in a part of [lo, hi) apart from the others' and from the block g -/
structure Inns {X : Type} (P : X → World → Nat → Nat → Prop) (w : World) (lo hi g : Nat) (L : List X) (c : Nat → Nat × Nat) : Prop where
  seg : ∀ i, i < L.length → lo ≤ (c i).1 ∧ (c i).1 ≤ (c i).2 ∧ (c i).2 ≤ hi ∧ (g < (c i).1 ∨ (c i).2 ≤ g)
  ap : ∀ i j, i < L.length → j < L.length → i ≠ j → (c i).2 ≤ (c j).1 ∨ (c j).2 ≤ (c i).1
  inn : ∀ i (h : i < L.length), P L[i] w (c i).1 (c i).2
structure Clo {X : Type} (P : X → World → Nat → Nat → Prop) : Prop where
  cb : ∀ {x : X} {w w' : World} {lo hi : Nat}, P x w lo hi → Below w.heap.size w w' → P x w' lo hi
  ct : ∀ {x : X} {w w' : World} {lo hi lo' hi' : Nat}, P x w lo hi → Touch lo' hi' w w' → (hi ≤ lo' ∨ hi' ≤ lo) → P x w' lo hi
theorem Inns.below {X : Type} {P : X → World → Nat → Nat → Prop} (hP : Clo P) {w w' : World} {lo hi g : Nat} {L : List X} {c : Nat → Nat × Nat} (h : Inns P w lo hi g L c) (hb : Below w.heap.size w w') : Inns P w' lo hi g L c :=
  ⟨h.seg, h.ap, fun i hi => hP.cb (h.inn i hi) hb⟩
theorem Inns.touch {X : Type} {P : X → World → Nat → Nat → Prop} (hP : Clo P) {w w' : World} {lo hi g lo' hi' : Nat} {L : List X} {c : Nat → Nat × Nat} (h : Inns P w lo hi g L c) (ht : Touch lo' hi' w w') (ho : ∀ i, i < L.length → (c i).2 ≤ lo' ∨ hi' ≤ (c i).1) : Inns P w' lo hi g L c :=
  ⟨h.seg, h.ap, fun i hi => hP.ct (h.inn i hi) ht (ho i hi)⟩
theorem Inns.wide {X : Type} {P : X → World → Nat → Nat → Prop} {w : World} {lo hi lo' hi' g : Nat} {L : List X} {c : Nat → Nat × Nat} (h : Inns P w lo hi g L c) (h1 : lo' ≤ lo) (h2 : hi ≤ hi') : Inns P w lo' hi' g L c :=
  ⟨fun i hi => by have := h.seg i hi; omega, h.ap, h.inn⟩
/-- such a row, in [lo, hi) -/
def GRow {X : Type} (P : X → World → Nat → Nat → Prop) (f : X → List Value) (n : Nat) (w : World) (lo hi : Nat) (v : Value) (L : List X) : Prop := ∃ g c, FRow f n w g (g + 1) v L ∧ lo ≤ g ∧ g < hi ∧ Inns P w lo hi g L c
def NGRow {X : Type} (P : X → World → Nat → Nat → Prop) (f : X → List Value) (n : Nat) (w : World) (lo hi : Nat) (v : Value) (L : List X) : Prop := (v = .slice none 0 0 ∧ L = []) ∨ GRow P f n w lo hi v L
theorem NGRow.below {X : Type} {P : X → World → Nat → Nat → Prop} (hP : Clo P) {f : X → List Value} {n : Nat} {w w' : World} {lo hi : Nat} {v : Value} {L : List X} (h : NGRow P f n w lo hi v L) (hb : Below w.heap.size w w') : NGRow P f n w' lo hi v L :=
  h.imp id fun ⟨g, c, h1, h2, h3, h4⟩ => ⟨g, c, h1.below hb, h2, h3, h4.below hP hb⟩
theorem NGRow.touch {X : Type} {P : X → World → Nat → Nat → Prop} (hP : Clo P) {f : X → List Value} {n : Nat} {w w' : World} {lo hi lo' hi' : Nat} {v : Value} {L : List X} (h : NGRow P f n w lo hi v L) (ht : Touch lo' hi' w w') (ho : hi ≤ lo' ∨ hi' ≤ lo) : NGRow P f n w' lo hi v L :=
  h.imp id fun ⟨g, c, h1, h2, h3, h4⟩ => ⟨g, c, h1.touch ht (by omega), h2, h3, h4.touch hP ht fun i hi => by have := h4.seg i hi; omega⟩
theorem NGRow.wide {X : Type} {P : X → World → Nat → Nat → Prop} {f : X → List Value} {n : Nat} {w : World} {lo hi lo' hi' : Nat} {v : Value} {L : List X} (h : NGRow P f n w lo hi v L) (h1 : lo' ≤ lo) (h2 : hi ≤ hi') : NGRow P f n w lo' hi' v L :=
  h.imp id fun ⟨g, c, e1, e2, e3, e4⟩ => ⟨g, c, e1, by omega, by omega, e4.wide h1 h2⟩
theorem NGRow.set {X : Type} {P : X → World → Nat → Nat → Prop} (hP : Clo P) {f : X → List Value} {n : Nat} {w : World} {lo hi : Nat} {v : Value} {L : List X} (h : NGRow P f n w lo hi v L) {p : Addr} (hp : p.block < lo) (u : Value) : NGRow P f n (w.setCell p u) lo hi v L :=
  h.touch hP (Touch.setCell p.block (p.block + 1) w p u ⟨Nat.le_refl _, Nat.lt_succ_self _⟩) (Or.inr hp)
theorem NGRow.form {X : Type} {P : X → World → Nat → Nat → Prop} {f : X → List Value} {n : Nat} {w : World} {lo hi : Nat} {v : Value} {L : List X} (h : NGRow P f n w lo hi v L) : ∃ a c, v = .slice a L.length c := by
  rcases h with ⟨h, rfl⟩ | ⟨_, _, ⟨g, cap, h, _⟩, _⟩
  · exact ⟨none, 0, h⟩
  · exact ⟨_, _, h⟩
/-- one more part behind the others -/
def cSnoc (c : Nat → Nat × Nat) (n : Nat) (p : Nat × Nat) : Nat → Nat × Nat := fun i => if i = n then p else c i
theorem Inns.snoc {X : Type} {P : X → World → Nat → Nat → Prop} {w : World} {lo hi g : Nat} {L : List X} {c : Nat → Nat × Nat} (h : Inns P w lo hi g L c) {x : X} {l u : Nat} (hx : P x w l u) (h1 : lo ≤ l) (h0 : l ≤ u) (h2 : u ≤ hi) (h3 : g < l ∨ u ≤ g) (h4 : ∀ i, i < L.length → (c i).2 ≤ l ∨ u ≤ (c i).1) : Inns P w lo hi g (L ++ [x]) (cSnoc c L.length (l, u)) := by
  have e1 : ∀ i, i < L.length → cSnoc c L.length (l, u) i = c i := fun i hi => if_neg (by omega)
  have e2 : cSnoc c L.length (l, u) L.length = (l, u) := if_pos rfl
  have hl : (L ++ [x]).length = L.length + 1 := by simp
  refine ⟨fun i hi => ?_, fun i j hi hj hne => ?_, fun i hi => ?_⟩
  · by_cases e : i < L.length
    · rw [e1 i e]; exact h.seg i e
    · obtain rfl : i = L.length := by omega
      rw [e2]; exact ⟨h1, h0, h2, h3⟩
  · by_cases e : i < L.length
    · rw [e1 i e]
      by_cases e' : j < L.length
      · rw [e1 j e']; exact h.ap i j e e' hne
      · obtain rfl : j = L.length := by omega
        rw [e2]; exact h4 i e
    · obtain rfl : i = L.length := by omega
      rw [e2, e1 j (by omega)]
      exact (h4 j (by omega)).symm
  · by_cases e : i < L.length
    · rw [e1 i e, List.getElem_append_left e]; exact h.inn i e
    · obtain rfl : i = L.length := by omega
      rw [e2]
      simpa using hx
def PM (x : MX) (w : World) (lo hi : Nat) : Prop := NRow rsL 2 w lo hi (.slice x.2.1 x.1.sl.length x.2.2) x.1.sl
def PA (x : AX) (w : World) (lo hi : Nat) : Prop := NRow inL 1 w lo hi (.slice x.2.1 x.1.fr.length x.2.2) x.1.fr
theorem cloM : Clo PM := ⟨fun h hb => NRow.below h hb, fun h ht ho => NRow.touch h ht ho⟩
theorem cloA : Clo PA := ⟨fun h hb => NRow.below h hb, fun h ht ho => NRow.touch h ht ho⟩
theorem NGRow.rms {w : World} {lo hi : Nat} {v : Value} {L : List MX} {Xl : List Rm} (h : NGRow PM mxL 8 w lo hi v L) (hL : L.map (·.1) = Xl) (hz : ∀ i (h : i < Xl.length), (∀ j (hj : j < Xl[i].sl.length), RsSize Xl[i].sl[j]) ∧ Xl[i].tx.size ≤ maxLen) : RmsOwn lo hi w v Xl := by
  subst hL
  rcases h with ⟨h, rfl⟩ | ⟨g, c, ⟨g', cap, h1, h2⟩, hlo, hhi, hi4⟩
  · exact Or.inl ⟨_, _, h, rfl⟩
  · obtain rfl : g' = g := by have := h2.bs; have := h2.up; omega
    by_cases hne : L = []
    · subst hne; exact Or.inl ⟨_, _, h1, rfl⟩
    have h0 : 0 < L.length := List.length_pos_iff.2 hne
    have hcell : ∀ i (hi : i < L.length) (t : Nat) (ht : t < 8) (u : Value), (mxL L[i])[t]? = some u → w.cell? ⟨g', 0 + i * 8 + t, none⟩ = some u := fun i hi t ht u hu => by
      rw [Nat.zero_add]; exact h2.get mxL_len hi ht hu
    refine Or.inr ⟨g', 0, cap, c, fun i => if h : i < L.length then L[i].1 else L[0].1, by rw [List.length_map]; exact h1, by simpa using hne, by rw [List.length_map]; exact Nat.le_trans h2.le h2.mx, by rw [List.length_map]; exact h2.le, fun i hi => ?_, h2.lt, hlo, hhi, fun i hi => by have := hi4.seg i (by simpa using hi); omega, fun i j hi hj => hi4.ap i j (by simpa using hi) (by simpa using hj), h2.fz, fun i hi => ?_⟩
    · rw [List.length_map] at hi
      simp [hi]
    · rw [List.length_map] at hi
      have hzi := hz i (by simpa using hi)
      simp only [List.getElem_map] at hzi
      simp only [hi, dif_pos]
      have hin : NRow rsL 2 w (c i).1 (c i).2 (.slice L[i].2.1 L[i].1.sl.length L[i].2.2) L[i].1.sl := hi4.inn i hi
      exact ⟨⟨hzi.2⟩, .slice L[i].2.1 L[i].1.sl.length L[i].2.2, (hi4.seg i hi).2.1, ⟨hcell i hi 0 (by omega) _ rfl, hcell i hi 1 (by omega) _ rfl, hcell i hi 2 (by omega) _ rfl, hcell i hi 3 (by omega) _ rfl, hcell i hi 4 (by omega) _ rfl, hcell i hi 5 (by omega) _ rfl, hcell i hi 6 (by omega) _ rfl, hcell i hi 7 (by omega) _ rfl⟩, hin.rss hzi.1⟩
theorem NGRow.ras {w : World} {lo hi : Nat} {v : Value} {L : List AX} {Xl : List Ra} (h : NGRow PA axL 2 w lo hi v L) (hL : L.map (·.1) = Xl) : RasOwn lo hi w v Xl := by
  subst hL
  rcases h with ⟨h, rfl⟩ | ⟨g, c, ⟨g', cap, h1, h2⟩, hlo, hhi, hi4⟩
  · exact Or.inl ⟨_, _, h, rfl⟩
  · obtain rfl : g' = g := by have := h2.bs; have := h2.up; omega
    by_cases hne : L = []
    · subst hne; exact Or.inl ⟨_, _, h1, rfl⟩
    have h0 : 0 < L.length := List.length_pos_iff.2 hne
    have hcell : ∀ i (hi : i < L.length) (t : Nat) (ht : t < 2) (u : Value), (axL L[i])[t]? = some u → w.cell? ⟨g', 0 + i * 2 + t, none⟩ = some u := fun i hi t ht u hu => by
      rw [Nat.zero_add]; exact h2.get axL_len hi ht hu
    refine Or.inr ⟨g', 0, cap, c, fun i => if h : i < L.length then L[i].1 else L[0].1, by rw [List.length_map]; exact h1, by simpa using hne, by rw [List.length_map]; exact Nat.le_trans h2.le h2.mx, by rw [List.length_map]; exact h2.le, fun i hi => ?_, h2.lt, hlo, hhi, fun i hi => by have := hi4.seg i (by simpa using hi); omega, fun i j hi hj => hi4.ap i j (by simpa using hi) (by simpa using hj), h2.fz, fun i hi => ?_⟩
    · rw [List.length_map] at hi
      simp [hi]
    · rw [List.length_map] at hi
      simp only [hi, dif_pos]
      have hin : NRow inL 1 w (c i).1 (c i).2 (.slice L[i].2.1 L[i].1.fr.length L[i].2.2) L[i].1.fr := hi4.inn i hi
      exact ⟨rfl, .slice L[i].2.1 L[i].1.fr.length L[i].2.2, (hi4.seg i hi).2.1, ⟨hcell i hi 0 (by omega) _ rfl, hcell i hi 1 (by omega) _ rfl⟩, hin.ris⟩
end Go.Proofs.Ytfbfgljkiikabaa
namespace Go.Proofs.Ytfbfgljkiikabaa
open Go.ChangeShapes Go.WideShapes Go.ChangeAt Go.RowKit Go.Deep
theorem Try.own : ownKnob Try.prog.godebug = none := by kernel_rfl
theorem Try.laidOut : laidOutB Try.prog = true := by kernel_rfl
theorem Try.cells9 : Try.prog.cellsOf 9 = 1 := by kernel_rfl
theorem Try.cells3 : Try.prog.cellsOf 3 = 1 := by kernel_rfl
theorem Try.cells4 : Try.prog.cellsOf 4 = 1 := by kernel_rfl
theorem choose_list {α : Type} {p : Nat → α → Prop} (n : Nat) : (∀ i, i < n → ∃ x, p i x) → ∃ L : List α, L.length = n ∧ ∀ i (h : i < L.length), p i L[i] := by
  induction n with
  | zero => intro _; exact ⟨[], rfl, fun i h => absurd h (by simp)⟩
  | succ n ih =>
    intro h
    obtain ⟨L, hl, hL⟩ := ih (fun i hi => h i (by omega))
    obtain ⟨x, hx⟩ := h n (by omega)
    refine ⟨L ++ [x], by simp [hl], fun i hi => ?_⟩
    by_cases e : i < L.length
    · rw [List.getElem_append_left e]; exact hL i e
    · have e2 : i = n := by simp at hi; omega
      subst e2
      have : (L ++ [x])[i] = x := by rw [List.getElem_append_right (by omega)]; simp [hl]
      rw [this]; exact hx
theorem Try.cells84 : Try.prog.cellsOf 84 = 2 := by kernel_rfl
theorem lstRs {l : List Value} (h : l.length = 2) : ∃ c0 c1, l = [c0, c1] := by
  match l, h with
  | [c0, c1], _ => exact ⟨c0, c1, rfl⟩
section
variable {H : Type} {enc : TypeId × Value → H} {W : World}
set_option maxRecDepth 100000 in
theorem open_Rs {fuel : Nat} {cs : List Value} {x : DataW H × List MemPlace} (h : DataW.trod enc Try.prog W 0 (fun _ => true) true fuel 84 cs = some x) :
    ∃ (x : Rs), cs = [.int .i64 x.ba, .string x.tx] ∧ RsSize x := by
  obtain ⟨xs, n, _, _, hl, hlen, hfld⟩ := DataW.trod_struct Try.underlying84 h
  obtain ⟨c0, c1, rfl⟩ := lstRs (hl.trans Try.cells84)
  simp only [Array.size, List.length_cons, List.length_nil] at hlen
  have g0 : DataW.trod enc Try.prog W 0 (fun _ => true) true n 3 ((([c0, c1] : List Value).drop 0).take (Try.prog.cellsOf 3)) = xs[0]? := hfld 0 _ rfl
  have g1 : DataW.trod enc Try.prog W 0 (fun _ => true) true n 9 ((([c0, c1] : List Value).drop 1).take (Try.prog.cellsOf 9)) = xs[1]? := hfld 1 _ rfl
  simp only [Try.cells3, Try.cells9, List.drop_succ_cons, List.drop_zero, List.take_succ_cons, List.take_zero] at g0 g1
  rw [List.getElem?_eq_getElem (by omega)] at g0 g1
  obtain ⟨q0, e0, _, _⟩ := DataW.trod_int Try.underlying3 g0
  obtain ⟨q1, e1, _, s1⟩ := DataW.trod_string Try.underlying9 g1
  simp only [List.cons.injEq, and_true] at e0 e1
  subst e0 e1
  exact ⟨⟨q0, q1⟩, rfl, ⟨s1⟩⟩
set_option maxRecDepth 100000 in
theorem open_Rss {fuel : Nat} {c : Value} {x : DataW H × List MemPlace} (h : DataW.trod enc Try.prog W 0 (fun _ => true) true fuel 24 [c] = some x) : ∃ Xl, RssAt 0 W c Xl := by
  rcases open_slice Try.underlying24 h with ⟨hcs, _⟩ | ⟨a, len, cap, m, n, D, Pl, hcs, _, hl, hm, hmm, _, hx⟩
  · simp only [List.cons.injEq, and_true] at hcs
    exact ⟨[], Or.inl ⟨_, _, hcs, rfl⟩⟩
  · simp only [List.cons.injEq, and_true] at hcs
    simp only [if_true] at hmm
    subst hmm
    rw [Try.cells84] at hx
    by_cases h0 : len = 0
    · subst h0
      exact ⟨[], Or.inl ⟨_, _, hcs, rfl⟩⟩
    · obtain ⟨Xl, hF, hall⟩ := choose_list (p := fun i (x : Rs) => RsSize x ∧ W.cells? 0 (a.add (i * 2)) 2 = some [.int .i64 x.ba, .string x.tx]) len (fun i hi => by
        obtain ⟨cs', h1, h2⟩ := hx i (by omega)
        obtain ⟨md, e, hz⟩ := open_Rs h2
        rw [e] at h1
        exact ⟨md, hz, h1⟩)
      obtain ⟨b, off, spot⟩ := a
      have hspot : spot = none := by
        obtain ⟨_, h1⟩ := hall 0 (by omega)
        have := (World.cells?_some h1).2.2 0 (by omega)
        rw [Nat.zero_mul] at this
        have e0 : ((⟨b, off, spot⟩ : Addr).add 0).add 0 = ⟨b, off, spot⟩ := by simp [Addr.add]
        rw [e0] at this
        simpa using World.cell?_spot (by simpa using this)
      subst hspot
      have hcell : ∀ i (hi : i < Xl.length), W.cells? 0 ((⟨b, off, none⟩ : Addr).add (i * 2)) 2 = some [.int .i64 Xl[i].ba, .string Xl[i].tx] → RsCells W b (off + i * 2) Xl[i] := fun i hi h1 => by
        obtain ⟨_, _, hc⟩ := World.cells?_some h1
        rw [add_plain] at hc
        have q := fun j (hj : j < 2) => (add_plain b (off + i * 2) j) ▸ hc j hj
        exact ⟨by simpa using q 0 (by omega), by simpa using q 1 (by omega)⟩
      have hbw : b < W.heap.size := by
        obtain ⟨_, h1⟩ := hall 0 (by omega)
        exact World.block_lt_of_cell? W _ (hcell 0 (by omega) h1).c0
      refine ⟨Xl, Or.inr ⟨b, off, m, by rw [hcs, hF], ?_, by omega, hbw, Nat.zero_le _, by omega, fun i hi => ?_⟩⟩
      · intro e; rw [e] at hF; simp at hF; omega
      · obtain ⟨hz, h1⟩ := hall i hi
        exact ⟨hz, hcell i hi h1⟩
end
end Go.Proofs.Ytfbfgljkiikabaa
