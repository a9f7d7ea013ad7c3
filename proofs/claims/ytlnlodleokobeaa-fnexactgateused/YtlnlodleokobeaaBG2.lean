import Derived.Test.YtlnlodleokobeaaBG1
import Derived.RangeFuncNested
import Derived.RangeFuncBound
import Derived.RangeFuncCalls
import Derived.RangeFuncLeaves
import Derived.Shelf.Abstract
import Derived.Shelf.RegionOpen
import Derived.WalkKit
import Derived.OwnWalkIn
import Derived.TacticsInMore
import Derived.LoopNIn
import Derived.LoopIn
import Derived.Test.YtlnlodleokobeaaBK1
import Derived.Test.YtlnlodleokobeaaBM2
import Derived.Test.YtlnlodleokobeaaBDA
import Derived.Test.YtlnlodleokobeaaBSA
import Derived.Test.YtlnlodleokobeaaBKA
import Derived.Test.YtlnlodleokobeaaBN12
import Derived.Test.YtlnlodleokobeaaBT4
import Derived.Test.YtlnlodleokobeaaBL1
import Derived.Test.YtlnlodleokobeaaBNA
import Derived.Test.YtlnlodleokobeaaBN2
import Derived.Test.YtlnlodleokobeaaBWB
import Derived.Test.YtlnlodleokobeaaBC2
import Derived.Test.YtlnlodleokobeaaBT1
import Derived.Test.YtlnlodleokobeaaBNZ
import Derived.Test.YtlnlodleokobeaaBWA
namespace Go.Proofs.Ytlnlodleokobeaa
open Go.RowKit Go.Deep Go.Shelf

attribute [local go_sem] Oper.semAt_some

theorem grown_of_below {w w' : World} (h : Below w.heap.size w w') : w.grownBy w' none :=
  ⟨h.os, h.tape, h.output, h.size, fun k hk _ => h.block k hk⟩
theorem abides_below {β : Type} {B : Nat} {J : β → World → Prop} (h : AbidesFrom B J) {s : β} {W W' : World} (hs : J s W) (hb : Below W.heap.size W W') : J s W' :=
  h s W W' none hs (grown_of_below hb) (fun r e => by cases e)

/-- WHAT A LOOP'S BODY KEEPS: all cells, and all that lay below B, but for the blocks of S. -/
structure KeepsBut (S : Nat → Prop) (B : Nat) (W W' : World) : Prop where
  os : W'.os = W.os
  tape : W'.tape = W.tape
  output : W'.output = W.output
  size : W.heap.size ≤ W'.heap.size
  same : ∀ k o, W.heap[k]? = some o → ¬ S k → (o.isCells = true ∨ k < B) → W'.heap[k]? = some o
theorem KeepsBut.refl (S : Nat → Prop) (B : Nat) (W : World) : KeepsBut S B W W := ⟨rfl, rfl, rfl, Nat.le_refl _, fun _ _ h _ _ => h⟩
theorem KeepsBut.trans {S : Nat → Prop} {B : Nat} {W W' W'' : World} (h : KeepsBut S B W W') (k : KeepsBut S B W' W'') : KeepsBut S B W W'' :=
  ⟨k.os.trans h.os, k.tape.trans h.tape, k.output.trans h.output, Nat.le_trans h.size k.size, fun i o hi hs ho => k.same i o (h.same i o hi hs ho) hs ho⟩
theorem KeepsBut.put {S : Nat → Prop} {w : World} (W : World) (l : Nat) (o o' : Obj) (hl : w.heap.size ≤ l) (h : W.heap[l]? = some o) (hc : o.isCells = false) (_ : o.isWalk = false) : KeepsBut S w.heap.size W (W.putObj l o') := by
  have hg := grownBy_putObj' W l o'
  refine ⟨hg.os, hg.tape, hg.output, hg.size, fun k x hk _ hx => ?_⟩
  by_cases e : k = l
  · subst e
    rw [h] at hk
    cases hk
    rcases hx with hx | hx
    · rw [hc] at hx; cases hx
    · omega
  · rw [hg.block k (Array.getElem?_eq_some_iff.1 hk).1 (fun e' => e (Option.some.inj e'))]
    exact hk
theorem KeepsBut.below {S : Nat → Prop} {B m : Nat} {W W' : World} (h : KeepsBut S B W W') (hm : m ≤ W.heap.size) (hS : ∀ k, k < m → ¬ S k) (hB : m ≤ B) : Below m W W' := by
  refine ⟨h.os, h.tape, h.output, h.size, fun k hk => ?_⟩
  have hlt : k < W.heap.size := Nat.lt_of_lt_of_le hk hm
  rw [Array.getElem?_eq_getElem hlt]
  exact h.same k _ (Array.getElem?_eq_getElem hlt) (hS k hk) (Or.inr (Nat.lt_of_lt_of_le hk hB))
theorem KeepsBut.cell {S : Nat → Prop} {B : Nat} {W W' : World} {p : Addr} {v : Value} (h : KeepsBut S B W W') (hc : W.cell? p = some v) (hS : ¬ S p.block) : W'.cell? p = some v := by
  obtain ⟨o, ho, hc'⟩ := cells_of_cell hc
  exact (World.cell?_of_block ((h.same _ o ho hS (Or.inl hc')).trans ho.symm)).trans hc
theorem KeepsBut.set {S : Nat → Prop} {B : Nat} (W : World) (p : Addr) (u : Value) (hS : S p.block) : KeepsBut S B W (W.setCell p u) := by
  refine ⟨rfl, rfl, rfl, by simp [World.setCell], fun k o hk hs _ => ?_⟩
  rw [Below.heap_setCell W p u k (fun e => hs (e ▸ hS))]
  exact hk

/-- what comes of the first k fields -/
def wpairs (Fs : List Fd) (V : List ByteArray) : Nat → List (ByteArray × Int)
  | 0 => []
  | k + 1 => wpairs Fs V k ++ (match Fs[k]?, V[k]? with | some f, some s => if (f.kd == 1 && !f.we.toList.isEmpty) = true then [(f.we, decR s)] else [] | _, _ => [])
theorem wpairs_succ {Fs : List Fd} {V : List ByteArray} {k : Nat} (hf : k < Fs.length) (hv : k < V.length) : wpairs Fs V (k + 1) = wpairs Fs V k ++ (if (Fs[k].kd == 1 && !Fs[k].we.toList.isEmpty) = true then [(Fs[k].we, decR V[k])] else []) := by
  rw [wpairs]
  simp [hf, hv]
theorem wpairs_len (Fs : List Fd) (V : List ByteArray) (k : Nat) : (wpairs Fs V k).length ≤ k := by
  induction k with
  | zero => simp [wpairs]
  | succ k ih =>
    rw [wpairs, List.length_append]
    split
    · split
      · simp; omega
      · simp; omega
    · simp; omega
def khead (kind : ByteArray) : List (ByteArray × Int) := if kind.toList.isEmpty = true then [] else [(kind, 1)]
/-- what comes of an object -/
def wlist (Ss : List Sh) (kind : ByteArray) (V : List ByteArray) : List (ByteArray × Int) :=
  match shOf Ss kind with
  | some x => if x.fields.length = V.length then khead kind ++ wpairs x.fields V V.length else []
  | none => []
theorem wlist_no {Ss : List Sh} {kind : ByteArray} {V : List ByteArray} (h : ∀ x, shOf Ss kind = some x → x.fields.length ≠ V.length) : wlist Ss kind V = [] := by
  unfold wlist
  cases hs : shOf Ss kind with
  | none => rfl
  | some x => simp [h x hs]
theorem wlist_yes {Ss : List Sh} {kind : ByteArray} {V : List ByteArray} {x : Sh} (h : shOf Ss kind = some x) (hl : x.fields.length = V.length) : wlist Ss kind V = khead kind ++ wpairs x.fields V V.length := by
  unfold wlist
  rw [h]
  simp [hl]
/-- what the parts of a list that are of a resource are together -/
def rsum (r : ByteArray) (L : List (ByteArray × Int)) : Int := (L.map fun p => if (p.1.toList == r.toList) = true then p.2 else 0).sum
theorem rsum_nil (r : ByteArray) : rsum r [] = 0 := rfl
theorem rsum_append (r : ByteArray) (A B : List (ByteArray × Int)) : rsum r (A ++ B) = rsum r A + rsum r B := by simp [rsum]
theorem rsum_one (r : ByteArray) (p : ByteArray × Int) : rsum r [p] = if (p.1.toList == r.toList) = true then p.2 else 0 := by simp [rsum]
theorem rsum_pairs {r : ByteArray} (hr : r.toList.isEmpty = false) (Fs : List Fd) (V : List ByteArray) (k : Nat) : rsum r (wpairs Fs V k) = wsum r Fs V k := by
  induction k with
  | zero => rfl
  | succ k ih =>
    rw [wpairs, wsum, rsum_append, ih]
    congr 1
    generalize Fs[k]? = fo
    generalize V[k]? = so
    cases fo with
    | none => rfl
    | some f =>
      cases so with
      | none => rfl
      | some s =>
        dsimp only
        unfold wone
        cases h1 : (f.kd == 1) with
        | false => simp [rsum_nil]
        | true =>
          cases h2 : f.we.toList.isEmpty with
          | false => simp [rsum_one]
          | true =>
            have : (f.we.toList == r.toList) = false := by
              rw [List.isEmpty_iff.1 h2]
              cases hq : r.toList with
              | nil => rw [hq] at hr; simp at hr
              | cons _ _ => rfl
            simp [rsum_nil, this]
theorem rsum_empty {r : ByteArray} (hr : r.toList.isEmpty = true) (Fs : List Fd) (V : List ByteArray) (k : Nat) : rsum r (wpairs Fs V k) = 0 := by
  induction k with
  | zero => rfl
  | succ k ih =>
    rw [wpairs, rsum_append, ih]
    split
    · rename_i f s _ _
      cases h2 : f.we.toList.isEmpty with
      | true => simp [rsum_nil]
      | false =>
        have : (f.we.toList == r.toList) = false := by
          rw [List.isEmpty_iff.1 hr]
          cases hq : f.we.toList with
          | nil => rw [hq] at h2; simp at h2
          | cons _ _ => rfl
        split
        · simp [rsum_one, this]
        · simp [rsum_nil]
    · simp [rsum_nil]
theorem rsum_wlist (Ss : List Sh) (kind : ByteArray) (V : List ByteArray) (r : ByteArray) : rsum r (wlist Ss kind V) = weighV Ss kind V r := by
  by_cases hn : ∀ x, shOf Ss kind = some x → x.fields.length ≠ V.length
  · rw [wlist_no hn, weigh_no hn]; rfl
  · obtain ⟨x, hx, hl⟩ : ∃ x, shOf Ss kind = some x ∧ x.fields.length = V.length := Classical.byContradiction fun h => hn fun x hx hl => h ⟨x, hx, hl⟩
    rw [wlist_yes hx hl, rsum_append]
    cases hr : r.toList.isEmpty with
    | true =>
      rw [weigh_nil hr, rsum_empty hr]
      unfold khead
      cases hk : kind.toList.isEmpty with
      | true => rfl
      | false =>
        have : (kind.toList == r.toList) = false := by
          rw [List.isEmpty_iff.1 hr]
          cases hq : kind.toList with
          | nil => rw [hq] at hk; simp at hk
          | cons _ _ => rfl
        simp [rsum_one, this]
    | false =>
      rw [weigh_yes hx hl hr, rsum_pairs hr]
      congr 1
      unfold khead
      cases hk : kind.toList.isEmpty with
      | true =>
        have : (r.toList == kind.toList) = false := by
          rw [List.isEmpty_iff.1 hk]
          cases hq : r.toList with
          | nil => rw [hq] at hr; simp at hr
          | cons _ _ => rfl
        simp [rsum_nil, this]
      | false =>
        simp only [Bool.false_eq_true, if_false, rsum_one]
        by_cases h : kind.toList = r.toList
        · simp [h]
        · have h' : ¬ r.toList = kind.toList := fun e => h e.symm
          simp [h, h']

section
variable (lo : Nat) (sv : Value) (Ss : List Sh) (kind nm team : ByteArray) (vv hv : Value) (en : Bool) (ver : Int) (V Ho : List ByteArray) (w : World)

set_option maxHeartbeats 1000000 in
theorem weights_in (F : Fence) (n : Nat) (hf : F.fn 28) (hro : F.round = none) (a : Option Addr) (ln cap : Nat) (va : Option Addr) (vn vcap : Nat) (ha : Option Addr) (hn hcap : Nat) :
    CallsIn F n Try.prog 28 #[.slice a ln cap, .agg #[.string kind, .string nm, .string team, .slice va vn vcap, .bool en, .slice ha hn hcap, .int .i64 ver]] w
      fun e w' => e = .returned (.func (.func 56) #[] #[.pointer (some ⟨w.heap.size, 0, none⟩), .pointer (some ⟨w.heap.size + 1, 0, none⟩)]) ∧
        w' = (w.alloc (.cells #[.slice a ln cap] 33)).alloc (.cells #[.string kind, .string nm, .string team, .slice va vn vcap, .bool en, .slice ha hn hcap, .int .i64 ver] 39) := by
  refine callsIn_of_wp Try.func28 rfl hf ?_ hro
  simp only [Try.ntmps28, List.size_toArray, List.length_cons, List.length_nil, Nat.reduceAdd, Nat.reduceSub, Array.replicate_succ, Array.replicate_zero, List.push_toArray, List.append_toArray, List.nil_append, List.cons_append]
  gi_wp2
  go_ret
  exact ⟨rfl, rfl⟩
end
end Go.Proofs.Ytlnlodleokobeaa

