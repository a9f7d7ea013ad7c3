import Derived.Test.YtoklnkojacdciaaG50
import Derived.RangeFuncNested
import Derived.RangeFuncBound
import Derived.RangeFuncCalls
import Derived.RangeFuncLeaves
import Derived.Shelf.Abstract
import Derived.Shelf.RegionOpen
import Derived.WalkKit
import Derived.OwnWalkIn
import Derived.TacticsInMore
import Derived.LoopNIn
import Derived.LoopIn
namespace Go.Proofs.Ytoklnkojacdciaa
open Go.RowKit Go.Deep Go.Shelf

attribute [local go_sem] Oper.semAt_some

theorem grown_of_below {w w' : World} (h : Below w.heap.size w w') : w.grownBy w' none :=
  ⟨h.os, h.tape, h.output, h.size, fun k hk _ => h.block k hk⟩
theorem abides_below {β : Type} {B : Nat} {J : β → World → Prop} (h : AbidesFrom B J) {s : β} {W W' : World} (hs : J s W) (hb : Below W.heap.size W W') : J s W' :=
  h s W W' none hs (grown_of_below hb) (fun r e => by cases e)

/-- WHAT A LOOP'S BODY KEEPS: all cells, and all that lay below B, but for the blocks of S. -/
structure KeepsBut (S : Nat → Prop) (B : Nat) (W W' : World) : Prop where
  os : W'.os = W.os
  tape : W'.tape = W.tape
  output : W'.output = W.output
  size : W.heap.size ≤ W'.heap.size
  same : ∀ k o, W.heap[k]? = some o → ¬ S k → (o.isCells = true ∨ k < B) → W'.heap[k]? = some o
theorem KeepsBut.refl (S : Nat → Prop) (B : Nat) (W : World) : KeepsBut S B W W := ⟨rfl, rfl, rfl, Nat.le_refl _, fun _ _ h _ _ => h⟩
theorem KeepsBut.trans {S : Nat → Prop} {B : Nat} {W W' W'' : World} (h : KeepsBut S B W W') (k : KeepsBut S B W' W'') : KeepsBut S B W W'' :=
  ⟨k.os.trans h.os, k.tape.trans h.tape, k.output.trans h.output, Nat.le_trans h.size k.size, fun i o hi hs ho => k.same i o (h.same i o hi hs ho) hs ho⟩
theorem KeepsBut.put {S : Nat → Prop} {w : World} (W : World) (l : Nat) (o o' : Obj) (hl : w.heap.size ≤ l) (h : W.heap[l]? = some o) (hc : o.isCells = false) (_ : o.isWalk = false) : KeepsBut S w.heap.size W (W.putObj l o') := by
  have hg := grownBy_putObj' W l o'
  refine ⟨hg.os, hg.tape, hg.output, hg.size, fun k x hk _ hx => ?_⟩
  by_cases e : k = l
  · subst e
    rw [h] at hk
    cases hk
    rcases hx with hx | hx
    · rw [hc] at hx; cases hx
    · omega
  · rw [hg.block k (Array.getElem?_eq_some_iff.1 hk).1 (fun e' => e (Option.some.inj e'))]
    exact hk
theorem KeepsBut.below {S : Nat → Prop} {B m : Nat} {W W' : World} (h : KeepsBut S B W W') (hm : m ≤ W.heap.size) (hS : ∀ k, k < m → ¬ S k) (hB : m ≤ B) : Below m W W' := by
  refine ⟨h.os, h.tape, h.output, h.size, fun k hk => ?_⟩
  have hlt : k < W.heap.size := Nat.lt_of_lt_of_le hk hm
  rw [Array.getElem?_eq_getElem hlt]
  exact h.same k _ (Array.getElem?_eq_getElem hlt) (hS k hk) (Or.inr (Nat.lt_of_lt_of_le hk hB))
theorem KeepsBut.cell {S : Nat → Prop} {B : Nat} {W W' : World} {p : Addr} {v : Value} (h : KeepsBut S B W W') (hc : W.cell? p = some v) (hS : ¬ S p.block) : W'.cell? p = some v := by
  obtain ⟨o, ho, hc'⟩ := cells_of_cell hc
  exact (World.cell?_of_block ((h.same _ o ho hS (Or.inl hc')).trans ho.symm)).trans hc
theorem KeepsBut.set {S : Nat → Prop} {B : Nat} (W : World) (p : Addr) (u : Value) (hS : S p.block) : KeepsBut S B W (W.setCell p u) := by
  refine ⟨rfl, rfl, rfl, by simp [World.setCell], fun k o hk hs _ => ?_⟩
  rw [Below.heap_setCell W p u k (fun e => hs (e ▸ hS))]
  exact hk

theorem KeepsBut.grow {S : Nat → Prop} {B : Nat} {W W' : World} (h : W.grownBy W' none) : KeepsBut S B W W' :=
  ⟨h.os, h.tape, h.output, h.size, fun k o hk _ _ => (h.block k (Array.getElem?_eq_some_iff.1 hk).1 (by simp)).trans hk⟩
theorem wpListIn_load_mid {F : Fence} {n : Nat} {P : Program} {ops : Array Oper} {rest : List Oper} {op : Oper} {a : Act} {w : World} {Q : Exit → Act → World → Prop} (hw : Region.wanted op (yielded ops a.tmps) = true) (ty : TypeId) (x : Operand) (ho : op.op = .load ty x)
    (b o : Nat) (hx : a.eval x = .pointer (some ⟨b, o, none⟩)) (cs : List Value) (d : TypeDesc) (hc : w.rangeAt b o cs)
    (hu : P.underlying ty = some d) (hd : d.isRow = true) (hi : (P.info? ty).map (·.size) = some cs.length)
    (h : wpListIn F n P ops Q rest (a.put op.dst (.agg cs.toArray)) w) : wpListIn F n P ops Q (op :: rest) a w :=
  BigFrame.wpListIn_want hw fun _ hK => by
    unfold Oper.wpIn
    refine ⟨by simp [Oper.about, ho], ?_⟩
    rw [Oper.semAt_plain F _ _ (by rw [ho]; intro c hc'; cases hc')]
    unfold execOp
    simp only [ho, hx, Instr.loadAt, Instr.sureAddr, Sem.run_bind, Sem.run_pure, Result.andThen_ok, run_loadVar_mid w b o ty cs d hc hu hd hi]
    exact hK _ _ h
theorem wpListIn_store_mid {F : Fence} {n : Nat} {P : Program} {ops : Array Oper} {rest : List Oper} {op : Oper} {a : Act} {w : World} {Q : Exit → Act → World → Prop} (hw : Region.wanted op (yielded ops a.tmps) = true) (ty : TypeId) (x y : Operand) (ho : op.op = .store ty x y)
    (b o : Nat) (cells : Array Value) (hx : a.eval x = .pointer (some ⟨b, o, none⟩)) (hy : a.eval y = .agg cells)
    (ht : w.there b o cells.size) (hi : (P.info? ty).map (·.size) = some cells.size) (h1 : cells.all (·.oneCell') = true)
    (h : wpListIn F n P ops Q rest (a.put op.dst undef) (w.setCells b o cells.toList)) : wpListIn F n P ops Q (op :: rest) a w :=
  BigFrame.wpListIn_want hw fun _ hK => by
    unfold Oper.wpIn
    refine ⟨by simp [Oper.about, ho], ?_⟩
    rw [Oper.semAt_plain F _ _ (by rw [ho]; intro c hc'; cases hc')]
    unfold execOp
    simp only [ho, hx, hy, Instr.storeAt, Instr.sureAddr, Sem.run_bind, Sem.run_pure, Result.andThen_ok, run_storeVar_mid w b o ty cells ht hi h1]
    exact hK _ _ h
theorem operIn_store_mid {F : Fence} {n : Nat} {P : Program} {op : Oper} {a : Act} {w : World} {K : Act → World → Prop} {Q : Exit → Act → World → Prop} (ty : TypeId) (x y : Operand) (ho : op.op = .store ty x y)
    (b o : Nat) (cells : Array Value) (hx : a.eval x = .pointer (some ⟨b, o, none⟩)) (hy : a.eval y = .agg cells)
    (ht : w.there b o cells.size) (hi : (P.info? ty).map (·.size) = some cells.size) (h1 : cells.all (·.oneCell') = true)
    (h : K (a.put op.dst undef) (w.setCells b o cells.toList)) : op.wpIn F n P a w K Q := by
  unfold Oper.wpIn
  refine ⟨by simp [Oper.about, ho], ?_⟩
  rw [Oper.semAt_plain F _ _ (by rw [ho]; intro c hc'; cases hc')]
  unfold execOp
  simp only [ho, hx, hy, Instr.storeAt, Instr.sureAddr, Sem.run_bind, Sem.run_pure, Result.andThen_ok, run_storeVar_mid w b o ty cells ht hi h1]
  exact h
theorem KeepsBut.sets {S : Nat → Prop} {B : Nat} (b : Nat) (hb : S b) : ∀ (vs : List Value) (o : Nat) (W : World), KeepsBut S B W (W.setCells b o vs)
  | [], _, _ => KeepsBut.refl _ _ _
  | v :: vs, o, W => (KeepsBut.set W ⟨b, o, none⟩ v hb).trans (KeepsBut.sets b hb vs (o + 1) _)
theorem KeepsOthers.sets (b : Nat) : ∀ (vs : List Value) (o : Nat) (W : World), KeepsOthers W (W.setCells b o vs)
  | [], _, _ => KeepsOthers.refl _
  | v :: vs, o, W => (KeepsOthers.setCell W _ v).trans (KeepsOthers.sets b vs (o + 1) _)

/-! what is told of places, one after the other -/
abbrev Tp := Int × ByteArray
def cutI (i : Int) : Int := if 1 ≤ i ∧ i ≤ 120 then i else 1
theorem cutI_ok {i : Int} (h1 : 1 ≤ i) (h2 : i ≤ 120) : cutI i = i := by unfold cutI; rw [if_pos ⟨h1, h2⟩]
theorem cutI_in (i : Int) : 1 ≤ cutI i ∧ cutI i ≤ 120 := by unfold cutI; split <;> omega
abbrev encT (x : Tp) : Array Value := #[.int .i64 (cutI x.1), .string x.2]
def bkP (L : List ByteArray) (t : Nat) : List Tp := (List.range t).flatMap fun (k : Nat) => match L[k]? with | some s => [((k : Int) + 1, s)] | none => []
def bksP (R : List Rr) (i : Nat) : List Tp := (List.range i).flatMap fun (j : Nat) => match R[j]? with | some r => bkP (bookL r) (bookL r).length | none => []
def mjP (R : List Rr) (t : Nat) : List Tp := (List.range t).flatMap fun (j : Nat) => match majR R ((j : Int) + 1) with | some s => [((j : Int) + 1, s)] | none => []
def toldP (R : List Rr) : List Tp := bksP R R.length ++ mjP R 120
theorem fm_snoc {f : Nat → List Tp} (n : Nat) : (List.range (n + 1)).flatMap f = (List.range n).flatMap f ++ f n := by rw [List.range_succ, List.flatMap_append]; simp
theorem fm_pre {f : Nat → List Tp} : ∀ (d m : Nat), ∃ R, (List.range (m + d)).flatMap f = (List.range m).flatMap f ++ R
  | 0, m => ⟨[], by simp⟩
  | d + 1, m => by
    obtain ⟨R, h⟩ := fm_pre d m
    exact ⟨R ++ f (m + d), by rw [← Nat.add_assoc, fm_snoc, h, List.append_assoc]⟩
theorem bkP_snoc {L : List ByteArray} {t : Nat} (h : t < L.length) : bkP L (t + 1) = bkP L t ++ [((t : Int) + 1, L[t])] := by
  unfold bkP; rw [fm_snoc, List.getElem?_eq_getElem h]
theorem bksP_snoc {R : List Rr} {i : Nat} (h : i < R.length) : bksP R (i + 1) = bksP R i ++ bkP (bookL R[i]) (bookL R[i]).length := by
  unfold bksP; rw [fm_snoc, List.getElem?_eq_getElem h]
theorem fm_len {f : Nat → List Tp} {c : Nat} (h : ∀ j, (f j).length ≤ c) : ∀ n, ((List.range n).flatMap f).length ≤ c * n
  | 0 => by simp
  | n + 1 => by
    have h1 := fm_len h n
    have h2 := h n
    rw [fm_snoc, List.length_append, Nat.mul_succ]
    omega
theorem bkP_len (L : List ByteArray) (t : Nat) : (bkP L t).length ≤ t := by
  have := fm_len (f := fun (k : Nat) => match L[k]? with | some s => [((k : Int) + 1, s)] | none => []) (c := 1) (fun j => by split <;> simp) t
  rw [Nat.one_mul] at this
  exact this
theorem bksP_len (R : List Rr) (hR : ∀ r ∈ R, (bookL r).length ≤ 120) (i : Nat) : (bksP R i).length ≤ 120 * i :=
  fm_len (fun j => by
    split
    · rename_i r hr
      exact Nat.le_trans (bkP_len _ _) (hR r (List.mem_of_getElem? hr))
    · simp) i
theorem mjP_len (R : List Rr) (t : Nat) : (mjP R t).length ≤ t := by
  have := fm_len (f := fun (j : Nat) => match majR R ((j : Int) + 1) with | some s => [((j : Int) + 1, s)] | none => []) (c := 1) (fun j => by split <;> simp) t
  rw [Nat.one_mul] at this
  exact this
/-- a beginning of what is told -/
def ToldTo (R : List Rr) (xs : List Tp) : Prop := ∃ ys, toldP R = xs ++ ys
theorem told_bk {R : List Rr} {i t : Nat} (hi : i < R.length) (ht : t ≤ (bookL R[i]).length) : ToldTo R (bksP R i ++ bkP (bookL R[i]) t) := by
  obtain ⟨A, hA⟩ := fm_pre (f := fun (j : Nat) => match R[j]? with | some r => bkP (bookL r) (bookL r).length | none => []) (R.length - (i + 1)) (i + 1)
  rw [show i + 1 + (R.length - (i + 1)) = R.length by omega] at hA
  obtain ⟨B, hB⟩ := fm_pre (f := fun (k : Nat) => match (bookL R[i])[k]? with | some s => [((k : Int) + 1, s)] | none => []) ((bookL R[i]).length - t) t
  rw [show t + ((bookL R[i]).length - t) = (bookL R[i]).length by omega] at hB
  refine ⟨B ++ A ++ mjP R 120, ?_⟩
  have e1 : bksP R R.length = bksP R (i + 1) ++ A := hA
  have e2 : bkP (bookL R[i]) (bookL R[i]).length = bkP (bookL R[i]) t ++ B := hB
  unfold toldP
  rw [e1, bksP_snoc hi, e2]
  simp [List.append_assoc]
theorem told_mj {R : List Rr} {t : Nat} (ht : t ≤ 120) : ToldTo R (bksP R R.length ++ mjP R t) := by
  obtain ⟨A, hA⟩ := fm_pre (f := fun (j : Nat) => match majR R ((j : Int) + 1) with | some s => [((j : Int) + 1, s)] | none => []) (120 - t) t
  rw [show t + (120 - t) = 120 by omega] at hA
  refine ⟨A, ?_⟩
  have e1 : mjP R 120 = mjP R t ++ A := hA
  unfold toldP
  rw [e1, List.append_assoc]
def okP (F : List Rx) (p : Tp) : Bool := okAt F p.1 p.2
theorem all_fm {f : Nat → List Tp} {q : Tp → Bool} : ∀ n, ((List.range n).flatMap f).all q = (List.range n).all fun i => (f i).all q
  | 0 => rfl
  | n + 1 => by rw [fm_snoc, List.all_append, all_fm n, List.range_succ, List.all_append]; simp
theorem told_all (F : List Rx) (R : List Rr) : (toldP R).all (okP F) = (bksB F R && mjB F R) := by
  unfold toldP
  rw [List.all_append]
  congr 1
  · unfold bksP bksB
    rw [all_fm]
    congr 1
    funext i
    unfold bksOne
    cases R[i]? with
    | none => rfl
    | some r =>
      show (bkP (bookL r) (bookL r).length).all (okP F) = bkB F (bookL r)
      unfold bkP bkB
      rw [all_fm]
      congr 1
      funext k
      unfold bkOne
      cases (bookL r)[k]? <;> simp [okP]
  · unfold mjP mjB
    rw [all_fm]
    congr 1
    funext i
    unfold mjOne
    cases majR R ((i : Int) + 1) <;> simp [okP]

def okC (F : List Rx) (p : Tp) : Bool := okAt F (cutI p.1) p.2
theorem told_bnd {R : List Rr} (hR : ∀ r ∈ R, (bookL r).length ≤ 120) : ∀ p ∈ toldP R, 1 ≤ p.1 ∧ p.1 ≤ 120 := by
  intro p hp
  unfold toldP at hp
  rcases List.mem_append.1 hp with h | h
  · unfold bksP at h
    obtain ⟨j, hj, h⟩ := List.mem_flatMap.1 h
    split at h
    · rename_i r hr
      have h1 := hR r (List.mem_of_getElem? hr)
      unfold bkP at h
      obtain ⟨k, hk, h⟩ := List.mem_flatMap.1 h
      have h2 := List.mem_range.1 hk
      split at h
      · rw [List.mem_singleton] at h
        subst h
        dsimp only
        omega
      · cases h
    · cases h
  · unfold mjP at h
    obtain ⟨k, hk, h⟩ := List.mem_flatMap.1 h
    have h2 := List.mem_range.1 hk
    split at h
    · rw [List.mem_singleton] at h
      subst h
      dsimp only
      omega
    · cases h
theorem told_cut {R : List Rr} (hR : ∀ r ∈ R, (bookL r).length ≤ 120) (F : List Rx) : (toldP R).all (okC F) = (bksB F R && mjB F R) := by
  rw [← told_all, Bool.eq_iff_iff, List.all_eq_true, List.all_eq_true]
  have h : ∀ p ∈ toldP R, okC F p = okP F p := fun p hp => by
    obtain ⟨h1, h2⟩ := told_bnd hR p hp
    unfold okC okP
    rw [cutI_ok h1 h2]
  exact ⟨fun H p hp => by rw [← h p hp]; exact H p hp, fun H p hp => by rw [h p hp]; exact H p hp⟩
theorem told_no {R : List Rr} (hR : ∀ r ∈ R, (bookL r).length ≤ 120) {F : List Rx} {pre : List Tp} (h : ToldTo R pre) (hp : pre.all (okC F) = false) : (bksB F R && mjB F R) = false := by
  obtain ⟨ys, hy⟩ := h
  rw [← told_cut hR F, hy, List.all_append, hp, Bool.false_and]
theorem bookL_valid {x : Rr} (h : validR x = true) : bookL x = txsL (x.dk.sl.take x.dk.kn.toNat) := by
  unfold bookL; rw [h]; rfl
section
variable (lo : Nat) (R : List Rr) (w : World)

set_option maxHeartbeats 1000000 in
theorem recTold_in (F : Fence) (n : Nat) (hf : F.fn 49) (hro : F.round = none) (a : Option Addr) (ln cap : Nat) :
    CallsIn F n Try.prog 49 #[.slice a ln cap] w
      fun e w' => e = .returned (.func (.func 81) #[] #[.pointer (some ⟨w.heap.size, 0, none⟩)]) ∧ w' = w.alloc (.cells #[.slice a ln cap] 22) := by
  refine callsIn_of_wp Try.func49 rfl hf ?_ hro
  simp only [Try.ntmps49, List.size_toArray, List.length_cons, List.length_nil, Nat.reduceAdd, Nat.reduceSub, Array.replicate_succ, Array.replicate_zero, List.push_toArray, List.append_toArray, List.nil_append, List.cons_append]
  gi_wp2
  go_ret
  exact ⟨rfl, rfl⟩

set_option maxRecDepth 100000 in
set_option maxHeartbeats 8000000 in
theorem told_stops (n : Nat) (hn : 1 ≤ n) (v : Value) (w0 : World) (B1 : Nat) (h0 : Below w0.heap.size w0 w) (hL : RrsAt lo w0 v R) (hok : SafeOk R) (hva : ∀ r ∈ R, validR r = true) (hX1 : Box w B1 #[v]) :
    SeqStopsK Fence.wide n Try.prog 81 #[.pointer (some ⟨B1, 0, none⟩)] encT (KeepsBut (fun _ => False) w.heap.size) (fun xs => xs = toldP R) (fun xs => ToldTo R xs) 1000 w := by
  intro l J Jx W hW hJ hJx hY hJ0
  have HL := hide hL
  obtain ⟨ca, ccap, rfl⟩ := hL.form
  have H0 := hide (h0.trans (hW.mono h0.size))
  have HX1 := hide (hX1.below hW hX1.lt)
  have hw : w.heap.size ≤ W.heap.size := hW.size
  have hw0 : w0.heap.size ≤ w.heap.size := h0.size
  have hn5 := hok.1
  have HOK := hide hok
  have HVA := hide hva
  have HJ := hide hJ
  have HY := hide hY
  have HJ0 := hide hJ0
  have HBL : Hid (∀ r ∈ R, (bookL r).length ≤ 120) := fun r hr => Nat.le_trans (bookL_len r) (valid_slB (hva r hr))
  obtain ⟨nn, hnn⟩ : ∃ nn, nn = R.length := ⟨_, rfl⟩
  have HNN := hide hnn
  rw [← hnn] at hn5 HX1
  clear hL h0 hW hX1 hJ hJx hY hJ0 hok hva hnn
  refine callsIn_of_wp Try.func81 rfl trivial ?_ rfl
  simp only [Try.ntmps81, List.size_toArray, List.length_cons, List.length_nil, Nat.reduceAdd, Nat.reduceSub, Array.replicate_succ, Array.replicate_zero, List.push_toArray, List.append_toArray, List.nil_append, List.cons_append]
  have o0 := HX1.out.cell 0
  have olt := HX1.out.lt
  simp at o0
  gi_wp2
  gi_loopw [12] (fun i wr => ∃ k : Nat, i = .int .i64 k ∧ k ≤ nn ∧ J (bksP R k) wr ∧ Below w0.heap.size w0 wr ∧ wr.cell? ⟨B1, 0, none⟩ = some (.slice ca nn ccap) ∧ B1 < wr.heap.size ∧ w.heap.size ≤ wr.heap.size)
    (fun i _ => nn - (intOf i).toNat)
  case atStart => exact ⟨0, rfl, Nat.zero_le _, HJ0.out, H0.out, o0, olt, hw⟩
  case round =>
    clear o0 olt hw H0 HJ0 HX1
    obtain ⟨k, rfl, hk, hJk, hBk, q0, qlt, qw⟩ := hrel
    have HJK := hide hJk
    have HBK := hide hBk
    clear hJk hBk
    by_cases hlt : k < nn
    · have hkl : k < R.length := by rw [← HNN.out]; exact hlt
      obtain ⟨b, off, rfl, hbw, -, hc⟩ := HL.out.full' (by omega)
      obtain ⟨cs, hr, hx⟩ := hc k hkl
      have HX := hide (hx.below HBK.out)
      have HR := hide (rng_below hr HBK.out hbw)
      have HLN : Hid (cs.length = 18) := hx.len
      have HL8 : Hid (cs.toArray.size = 18) := hx.len
      have HON : Hid (cs.toArray.all (·.oneCell') = true) := hx.one
      have HSN : Hid (bksP R (k + 1) = bksP R k ++ bkP (bookL R[k]) (bookL R[k]).length) := bksP_snoc hkl
      have HTO : Hid (∀ t, t ≤ (bookL R[k]).length → ToldTo R (bksP R k ++ bkP (bookL R[k]) t)) := fun t ht => told_bk hkl ht
      have HVK : Hid (validR R[k] = true) := HVA.out _ (List.getElem_mem hkl)
      have HB2 : Hid ((bookL R[k]).length ≤ 120) := HBL.out _ (List.getElem_mem hkl)
      have hpl : (bksP R k).length ≤ 600 := Nat.le_trans (bksP_len R HBL.out k) (by omega)
      obtain ⟨x, hxx⟩ : ∃ x, x = R[k] := ⟨_, rfl⟩
      rw [← hxx] at HX HSN HTO HVK HB2
      obtain ⟨a1, k1, h6, h7, h8, hrs⟩ : ∃ a1 k1, cs[6]? = some (.int .i64 x.dk.pr) ∧ cs[7]? = some (.int .i64 x.dk.kn) ∧ cs[8]? = some (.slice a1 x.dk.sl.length k1) ∧ RssAt lo wr (.slice a1 x.dk.sl.length k1) x.dk.sl := by
        obtain ⟨a0, k0, a1, k1, a2, k2, a3, k3, a4, k4, a5, k5, a6, k6, hcs, h⟩ := HX.out
        exact ⟨a1, k1, by rw [hcs]; rfl, by rw [hcs]; rfl, by rw [hcs]; rfl, h.l1⟩
      have H678 : Hid (cs[6]? = some (.int .i64 x.dk.pr) ∧ cs[7]? = some (.int .i64 x.dk.kn) ∧ cs[8]? = some (.slice a1 x.dk.sl.length k1)) := ⟨h6, h7, h8⟩
      have HRS := hide hrs
      have HSy0 : Hid ((Try.prog.info? 51).map (·.size) = some cs.length) := by unfold Hid; rw [HLN.out]; exact Rr_sizeI
      have HSz0 : Hid ((Try.prog.info? 51).map (·.size) = some cs.toArray.size) := by unfold Hid; rw [HL8.out]; exact Rr_sizeI
      have HTH : Hid (World.there (wr.alloc (.cells #[.int .i64 0, .int .i64 0, .bool false, .int .i64 0, .int .i64 0, .slice none 0 0, .int .i64 0, .int .i64 0, .slice none 0 0, .slice none 0 0, .slice none 0 0, .bool false, .bool false, .int .i64 0, .slice none 0 0, .slice none 0 0, .slice none 0 0, .int .i64 0] 51)) wr.heap.size 0 cs.toArray.size) := by unfold Hid; rw [HL8.out]; exact (Box.new _ _ _ _ rfl).there rfl
      have i0 : (0 : Int) ≤ (k : Int) := by omega
      have i1 : (k : Int) < (nn : Int) := by omega
      clear hc hxx hr hx h6 h7 h8 hrs
      gi_wp2_with (first
        | (with_reducible refine wpListIn_load_mid (by with_unfolding_all rfl) 51 (.tmp 14) (by with_reducible rfl) b (off + k * 18) (by with_unfolding_all rfl) cs _ HR.out Try.underlying51 (by with_unfolding_all rfl) HSy0.out ?_)
        | (refine wpListIn_store_mid (by rfl) 51 (.tmp 4) (.tmp 15) rfl wr.heap.size 0 cs.toArray rfl rfl HTH.out HSz0.out HON.out ?_; refine Hid.out ?_))
      generalize hWb : World.setCells (World.alloc _ _) _ _ _ = Wb
      have HWB : Hid (Below wr.heap.size wr Wb) := by unfold Hid; rw [← hWb]; exact Below.sets (Nat.le_refl _) _ _ (one_al _ _)
      have BX : Hid (Box Wb wr.heap.size cs.toArray) := by unfold Hid; rw [← hWb]; exact (Box.new _ _ _ _ rfl).full (by rw [HL8.out]; rfl)
      clear hWb
      have d6 : Wb.cell? ⟨wr.heap.size, 6, none⟩ = some (.int .i64 x.dk.pr) := by rw [BX.out.cell 6]; simpa using H678.out.1
      have d7 : Wb.cell? ⟨wr.heap.size, 6 + 1, none⟩ = some (.int .i64 x.dk.kn) := by rw [BX.out.cell 7]; simpa using H678.out.2.1
      have d8 : Wb.cell? ⟨wr.heap.size, 6 + 2, none⟩ = some (.slice a1 x.dk.sl.length k1) := by rw [BX.out.cell 8]; simpa using H678.out.2.2
      have HJb : Hid (J (bksP R k) Wb) := abides_below HJ.out HJK.out HWB.out
      have HBb : Hid (Below w0.heap.size w0 Wb) := HBK.out.trans (HWB.out.mono HBK.out.size)
      have q0b := (HWB.out.cell (p := ⟨B1, 0, none⟩) qlt).trans q0
      have qz := HWB.out.size
      have HRb : Hid (RssAt lo Wb (.slice a1 x.dk.sl.length k1) x.dk.sl) := HRS.out.below HWB.out
      clear q0 HJK HBK HWB BX HTH HRS HX HR
      unfold Hid
      gi_wp2
      refine ⟨trivial, (callsIn_wide.2 (bookI_any lo x.dk a1 k1 Wb HRb.out (valid_knB HVK.out).1 (valid_knB HVK.out).2 (valid_slB HVK.out))).mono ?_⟩
      rintro _ wc ⟨v', rfl, hbc, g, cap, rfl, hf⟩
      rw [← bookL_valid HVK.out] at hf ⊢
      have HCc : Hid (∀ t (h : t < (bookL x).length), wc.cell? ⟨g, t, none⟩ = some (.string (bookL x)[t])) := fun t h => by
        have := FR.get (f := tyL) (n := 1) (fun _ => rfl) hf h (t := 0) (Nat.lt_succ_self 0) (v := .string (bookL x)[t]) rfl
        simpa using this
      have HJc : Hid (J (bksP R k) wc) := abides_below HJ.out HJb.out hbc
      have HBc : Hid (Below w0.heap.size w0 wc) := HBb.out.trans (hbc.mono HBb.out.size)
      have q0c := (hbc.cell (p := ⟨B1, 0, none⟩) (Nat.lt_of_lt_of_le qlt qz)).trans q0b
      have qzc := hbc.size
      clear d6 d7 d8 HJb HBb q0b HRb hbc hf
      gi_wp2
      obtain ⟨m, hm⟩ : ∃ m, m = (bookL x).length := ⟨_, rfl⟩
      have HM := hide hm
      have hm120 : m ≤ 120 := by rw [hm]; exact HB2.out
      rw [← hm] at HSN ⊢
      clear hm
      gi_loopw [20] (fun i wx => ∃ t : Nat, i = .int .i64 t ∧ t ≤ m ∧ J (bksP R k ++ bkP (bookL x) t) wx ∧ Below w0.heap.size w0 wx ∧ wx.cell? ⟨B1, 0, none⟩ = some (.slice (some ⟨b, off, none⟩) nn ccap) ∧ B1 < wx.heap.size ∧ w.heap.size ≤ wx.heap.size ∧ (∀ t (h : t < (bookL x).length), wx.cell? ⟨g, t, none⟩ = some (.string (bookL x)[t])))
        (fun i _ => m - (intOf i).toNat)
      case atStart => exact ⟨0, rfl, Nat.zero_le _, by rw [show bkP (bookL x) 0 = [] from rfl, List.append_nil]; exact HJc.out, HBc.out, q0c, by omega, by omega, HCc.out⟩
      case round =>
        clear HCc HJc HBc q0c qzc qz qw qlt
        obtain ⟨t, rfl, ht, hJt, hBt, q0, qlt, qw, hct⟩ := hrel
        have HJT := hide hJt
        have HBT := hide hBt
        have HCT := hide hct
        clear hJt hBt hct
        by_cases htl : t < m
        · have htb : t < (bookL x).length := by rw [← HM.out]; exact htl
          have e0 := HCT.out t htb
          have HSt := hide (bkP_snoc htb)
          have HTo := hide (HTO.out (t + 1) htb)
          obtain ⟨s, hs⟩ : ∃ s, s = (bookL x)[t] := ⟨_, rfl⟩
          rw [← hs] at e0 HSt
          have i2 : (0 : Int) ≤ (t : Int) := by omega
          have i3 : (t : Int) < (m : Int) := by omega
          have hpl2 : (bksP R k ++ bkP (bookL x) t).length < 1000 := by rw [List.length_append]; have := bkP_len (bookL x) t; omega
          obtain ⟨fn, tmps, assign, body, hy, hR⟩ := HY.out _ ((t : Int) + 1, s) _ HJT.out hpl2
          dsimp only [encT] at hy
          rw [cutI_ok (by omega) (by omega)] at hy
          have HRn := hide hR
          clear hR hpl2 hs htb
          gi_wp2
          refine HRn.out.mono ?_
          rintro e W3 (⟨rfl, hJ3, hk3⟩ | ⟨rfl, hJx3⟩)
          · have HJ3 := hide hJ3
            have r3 := hk3.cell q0 (fun h => h)
            have rc : Hid (∀ t (h : t < (bookL x).length), W3.cell? ⟨g, t, none⟩ = some (.string (bookL x)[t])) := fun t h => hk3.cell (HCT.out t h) (fun h => h)
            have rB : Hid (Below w0.heap.size w0 W3) := HBT.out.trans (hk3.below HBT.out.size (fun _ _ h => h) hw0)
            have rz := hk3.size
            clear hk3 hJ3 hy
            gi_wp2
            go_roundw
            case rel => exact ⟨t + 1, by go_num, by omega, by rw [HSt.out, ← List.append_assoc]; exact HJ3.out, rB.out, r3, by omega, by omega, rc.out⟩
            case measure => simp [intOf]; omega
          · have HX3 : Hid (Jx (bksP R k ++ bkP (bookL x) (t + 1)) W3) := by unfold Hid; rw [HSt.out, ← List.append_assoc]; exact hJx3
            clear hJx3 hy
            gi_wp2
            refine bodyPost_ret (results_none rfl _ _ _) rfl ?_
            exact ⟨⟨_, rfl⟩, .inr ⟨_, HTo.out, HX3.out⟩⟩
        · have htm : t = m := by omega
          subst htm
          gi_wp2
          go_roundw
          case rel => exact ⟨k + 1, by go_num, by omega, by rw [HSN.out]; exact HJT.out, HBT.out, q0, by omega, by omega⟩
          case measure => simp [intOf]; omega
    · have hkn : k = nn := by omega
      subst hkn
      gi_wp2
      have HKL : Hid (k = R.length) := HNN.out
      have hpl : (bksP R k).length ≤ 600 := Nat.le_trans (bksP_len R HBL.out k) (by omega)
      gi_loopw [7] (fun i wx => ∃ t : Nat, i = .int .i64 ((t : Int) + 1) ∧ t ≤ 120 ∧ J (bksP R k ++ mjP R t) wx ∧ Below w0.heap.size w0 wx ∧ wx.cell? ⟨B1, 0, none⟩ = some (.slice ca k ccap) ∧ B1 < wx.heap.size ∧ w.heap.size ≤ wx.heap.size)
        (fun i _ => 122 - (intOf i).toNat)
      case atStart => exact ⟨0, rfl, by omega, by rw [show mjP R 0 = [] from rfl, List.append_nil]; exact HJK.out, HBK.out, q0, qlt, qw⟩
      case round =>
        clear q0 qlt qw HJK HBK
        obtain ⟨t, rfl, ht, hJt, hBt, q0, qlt, qw⟩ := hrel
        have HJT := hide hJt
        have HBT := hide hBt
        clear hJt hBt
        by_cases htl : t < 120
        · have d0 : decide ((t : Int) + 1 ≤ 120) = true := decide_eq_true (by omega)
          have HLt : Hid (RrsAt lo wr (.slice ca k ccap) R) := by unfold Hid; rw [HKL.out]; exact HL.out.below HBT.out
          have HTo : Hid (ToldTo R (bksP R k ++ mjP R (t + 1))) := by unfold Hid; rw [HKL.out]; exact told_mj htl
          have HSt : Hid (mjP R (t + 1) = mjP R t ++ match majR R ((t : Int) + 1) with | some s => [((t : Int) + 1, s)] | none => []) := by unfold Hid mjP; rw [fm_snoc]
          gi_wp2
          refine ⟨trivial, (callsIn_wide.2 (majI_any lo _ R ((t : Int) + 1) wr HLt.out HOK.out)).mono ?_⟩
          rintro _ wc ⟨rfl, hbc⟩
          have HJc : Hid (J (bksP R k ++ mjP R t) wc) := abides_below HJ.out HJT.out hbc
          have HBc : Hid (Below w0.heap.size w0 wc) := HBT.out.trans (hbc.mono HBT.out.size)
          have q0c := (hbc.cell (p := ⟨B1, 0, none⟩) qlt).trans q0
          have qzc := hbc.size
          clear hbc HLt HJT HBT q0 d0
          cases hM : majR R ((t : Int) + 1) with
          | none =>
            rw [hM] at HSt
            clear hM
            dsimp only [majV]
            gi_wp2
            all_goals (refine ⟨fun _ h => (by cases h), ?_⟩; gi_wp2)
            go_roundw
            case rel => exact ⟨t + 1, by go_num, by omega, by rw [HSt.out, List.append_nil]; exact HJc.out, HBc.out, q0c, by omega, by omega⟩
            case measure => simp [intOf]; omega
          | some s =>
            rw [hM] at HSt
            clear hM
            dsimp only [majV] at HSt ⊢
            have hpl2 : (bksP R k ++ mjP R t).length < 1000 := by rw [List.length_append]; have := mjP_len R t; omega
            obtain ⟨fn, tmps, assign, body, hy, hR⟩ := HY.out _ ((t : Int) + 1, s) _ HJc.out hpl2
            dsimp only [encT] at hy
            rw [cutI_ok (by omega) (by omega)] at hy
            have HRn := hide hR
            clear hR hpl2
            gi_wp2
            refine HRn.out.mono ?_
            rintro e W3 (⟨rfl, hJ3, hk3⟩ | ⟨rfl, hJx3⟩)
            · have HJ3 := hide hJ3
              have r3 := hk3.cell q0c (fun h => h)
              have rB : Hid (Below w0.heap.size w0 W3) := HBc.out.trans (hk3.below HBc.out.size (fun _ _ h => h) hw0)
              have rz := hk3.size
              clear hk3 hJ3 hy
              gi_wp2
              go_roundw
              case rel => exact ⟨t + 1, by go_num, by omega, by rw [HSt.out, ← List.append_assoc]; exact HJ3.out, rB.out, r3, by omega, by omega⟩
              case measure => simp [intOf]; omega
            · have HX3 : Hid (Jx (bksP R k ++ mjP R (t + 1)) W3) := by unfold Hid; rw [HSt.out, ← List.append_assoc]; exact hJx3
              clear hJx3 hy
              gi_wp2
              refine bodyPost_ret (results_none rfl _ _ _) rfl ?_
              exact ⟨⟨_, rfl⟩, .inr ⟨_, HTo.out, HX3.out⟩⟩
        · have d0 : decide ((t : Int) + 1 ≤ 120) = false := decide_eq_false (by omega)
          have htm : t = 120 := by omega
          have HF : Hid (toldP R = bksP R k ++ mjP R t) := by unfold Hid toldP; rw [HKL.out, htm]
          gi_wp2
          go_end0
          exact ⟨⟨_, rfl⟩, .inl ⟨_, HF.out.symm, HJT.out⟩⟩
end
end Go.Proofs.Ytoklnkojacdciaa
