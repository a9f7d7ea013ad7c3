import Derived.Test.YtaogpeebencnoaaGreatDoorA31
import Derived.Test.YtaogpeebencnoaaGreatDoorA40
import Derived.Test.YtaogpeebencnoaaGreatDoorA41
import Derived.RangeFuncNested
import Derived.RangeFuncBound
import Derived.RangeFuncCalls
import Derived.RangeFuncLeaves
import Derived.Shelf.Abstract
import Derived.Shelf.RegionOpen
import Derived.WalkKit
import Derived.OwnWalkIn
import Derived.TacticsInMore
import Derived.LoopNIn
import Derived.LoopIn
import Derived.RangeFuncWrites
import Derived.Lib.SliceRun
import Derived.Deep.RegionLaw
import Derived.Deep.RegionHeldLaw
import Derived.Laws.IdiomCopy
namespace Go.Proofs.YtaogpeebencnoaaGreatDoor
open Go.RowKit Go.Deep

set_option maxRecDepth 100000 in
set_option maxHeartbeats 4000000 in
theorem actSound_any (lo m : Nat) (now : Int) (sv cv bv ev : Value) (A : Ac) (w : World) (ha : AcAt lo w ev A) (h0 : ∃ a n k, sv = .slice a n k) (h1 : ∃ a n k, cv = .slice a n k) (h2 : ∃ a n k, bv = .slice a n k) :
    Calls Tryz.prog 78 #[.agg #[.int .i64 now, sv, cv, bv, .map (some m)], .agg #[.string A.sv, .int .i64 A.sn, .int .i64 A.cr, .int .i64 A.wa, .int .i64 A.cl, .bool A.sc, ev, .bool A.dp]] w
      fun e w' => e = .returned (fltV (actB A) 2) ∧ Below w.heap.size w w' := by
  have HA := hide ha
  obtain ⟨a0, n0, k0, rfl⟩ := h0
  obtain ⟨a1, n1, k1, rfl⟩ := h1
  obtain ⟨a2, n2, k2, rfl⟩ := h2
  obtain ⟨ea, ec, rfl⟩ := ha.ens.form
  have HI : Hid (actB A = (inB 0 20 A.cr && ((decide (A.es.length ≤ 200) && risR rEn A.es) && (scB A && dpB A)))) := by
    unfold Hid actB
    simp only [Bool.and_assoc]
  clear ha
  go_enter Tryz.func78, Tryz.ntmps78
  cases q1 : inB 0 20 A.cr with
  | false =>
    have HE : Hid (actB A = false) := by unfold Hid; rw [HI.out, q1]; rfl
    go_wp2_with (first | (go_at_call 87; refine (within_any _ _ _ _).mono ?_; rintro e w' ⟨rfl, rfl⟩) | (go_at_call 103; refine (faultUnless_any _ _ _).mono ?_; rintro e w' ⟨rfl, rfl⟩))
    go_ret
    exact ⟨by rw [HE.out]; rfl, (one_al w _).alloc (by simp) _⟩
  | true =>
    go_wp2_with (go_at_call 87; refine (within_any _ _ _ _).mono ?_; rintro e w' ⟨rfl, rfl⟩)
    generalize hWa : World.alloc (w.alloc _) _ = Wa
    have HB : Hid (Below w.heap.size w Wa) := by rw [← hWa]; exact (one_al w _).alloc (by simp) _
    have FQ : Hid (Box Wa (w.heap.size + 1) #[.string A.sv, .int .i64 A.sn, .int .i64 A.cr, .int .i64 A.wa, .int .i64 A.cl, .bool A.sc, .slice ea A.es.length ec, .bool A.dp]) := by
      unfold Hid
      rw [← hWa]
      exact Box.new _ _ _ _ (by simp)
    clear hWa
    refine (endsSound_any lo _ A.es _ (HA.out.ens.below HB.out)).mono ?_
    rintro e w1 ⟨rfl, hb1⟩
    replace HB := hide (bt HB.out hb1)
    replace FQ := hide (FQ.out.on hb1)
    clear hb1
    generalize q2 : (decide (A.es.length ≤ 200) && risR rEn A.es) = b2 at *
    cases b2 with
    | false =>
      have HE : Hid (actB A = false) := by unfold Hid; rw [HI.out, q1]; rfl
      clear q2
      go_wp2_with (go_at_call 103; refine (faultUnless_any _ _ _).mono ?_; rintro e w' ⟨rfl, rfl⟩)
      go_ret
      exact ⟨by rw [HE.out]; rfl, HB.out⟩
    | true =>
      clear q2
      have q := FQ.out.cell
      go_wp2_with fail
      clear q
      refine (scaleSound_any _ A _ ⟨_, _, _, rfl⟩).mono ?_
      rintro e w2 ⟨rfl, hb2⟩
      replace HB := hide (bt HB.out hb2)
      replace FQ := hide (FQ.out.on hb2)
      clear hb2
      cases q3 : scB A with
      | false =>
        have HE : Hid (actB A = false) := by unfold Hid; rw [HI.out, q1, q3]; rfl
        go_wp2_with (go_at_call 103; refine (faultUnless_any _ _ _).mono ?_; rintro e w' ⟨rfl, rfl⟩)
        go_ret
        exact ⟨by rw [HE.out]; rfl, HB.out⟩
      | true =>
        have HE : Hid (actB A = dpB A) := by unfold Hid; rw [HI.out, q1, q3]; rfl
        have q := FQ.out.cell
        go_wp2_with fail
        clear q
        refine (dropSound_any _ _ A _).mono ?_
        rintro e w3 ⟨rfl, hb3⟩
        replace HB := hide (bt HB.out hb3)
        clear hb3
        go_wp2_with (go_at_call 103; refine (faultUnless_any _ _ _).mono ?_; rintro e w' ⟨rfl, rfl⟩)
        go_ret
        exact ⟨by rw [HE.out]; rfl, HB.out⟩
end Go.Proofs.YtaogpeebencnoaaGreatDoor
namespace Go.Proofs.YtaogpeebencnoaaGreatDoor
open Go.RowKit Go.Deep

/-- which copy is looked for -/
def tgtN (s : ByteArray) (n : Int) : Cp := ⟨s, n, 0, 0, 0, false, ⟨#[]⟩⟩
theorem cmpI_zero {a b : Int} : cmpI a b = 0 ↔ a = b := by unfold cmpI; split <;> (try split) <;> omega
theorem cCp_zero {a b : Cp} : (cCp a b = 0) ↔ a.se = b.se ∧ a.nu = b.nu := by
  unfold cCp
  rw [orI_zero, cmpS_zero, cmpI_zero]
/-- what the place of a copy is -/
def CpIs (L : List Cp) (s : ByteArray) (n : Int) (p : Nat) (t : Bool) : Prop := (t = false ∧ cpF L s n = none) ∨ (t = true ∧ ∃ (h : p < L.length), cpF L s n = some L[p] ∧ cpI L s n = p ∧ L[p].se = s ∧ L[p].nu = n)
theorem cpIs_iff {s : ByteArray} {n : Int} {c : Cp} : cpIs s n c = true ↔ c.se = s ∧ c.nu = n := by
  unfold cpIs
  rw [Bool.and_eq_true]
  exact ⟨fun h => ⟨bytes_eq.1 h.1, beq_iff_eq.1 h.2⟩, fun h => ⟨bytes_eq.2 h.1, beq_iff_eq.2 h.2⟩⟩
theorem cpIs_not {s : ByteArray} {n : Int} {c : Cp} (h : cCp c (tgtN s n) ≠ 0) : cpIs s n c = false := by
  cases hq : cpIs s n c with
  | false => rfl
  | true => exact absurd (cCp_zero.2 (cpIs_iff.1 hq)) h
theorem cp_is {L : List Cp} {s : ByteArray} {n : Int} {p : Nat} (hr : risR aheadB L = true) (h : Spot cCp L (tgtN s n) p) : CpIs L s n p (isAt cCp L (tgtN s n) p) := by
  have hno : ∀ j (hj : j < L.length), j < p → cpIs s n L[j] = false := fun j hj hjp => cpIs_not (by have := h.less j hj hjp; omega)
  unfold isAt
  by_cases hp : p < L.length
  · rw [List.getElem?_eq_getElem hp]
    by_cases h0 : cCp L[p] (tgtN s n) = 0
    · refine Or.inr ⟨decide_eq_true h0, hp, ?_⟩
      have hc := cCp_zero.1 h0
      exact ⟨find_at hp hno (cpIs_iff.2 hc), idx_at hp hno (cpIs_iff.2 hc), hc.1, hc.2⟩
    · refine Or.inl ⟨decide_eq_false h0, find_none fun j hj => ?_⟩
      by_cases hjp : j < p
      · exact hno j hj hjp
      · by_cases e : j = p
        · subst e; exact cpIs_not h0
        · refine cpIs_not fun e0 => ?_
          have h1 := ahead_lt hr hp hj (by omega)
          have h2 := h.more p hp (Nat.le_refl _)
          have h3 : cCp L[p] (tgtN s n) = cCp L[p] L[j] := by
            have := cCp_zero.1 e0
            unfold cCp
            rw [this.1, this.2]
          rw [h3] at h2
          rw [← cCp_neg] at h1
          have := of_decide_eq_true h1
          omega
  · rw [List.getElem?_eq_none (by omega)]
    exact Or.inl ⟨rfl, find_none fun j hj => hno j hj (by omega)⟩

set_option maxRecDepth 100000 in
set_option maxHeartbeats 4000000 in
theorem copyPlace_any (lo : Nat) (now : Int) (sv cv bv : Value) (L : List Cp) (s : ByteArray) (n : Int) (w : World) (hL : CpsAt lo w cv L) (n1 : L.length ≤ 1048576) (hr : risR aheadB L = true) (h0 : ∃ a n k, sv = .slice a n k) (h2 : ∃ a n k, bv = .slice a n k) :
    Calls Tryz.prog 104 #[.agg #[.int .i64 now, sv, cv, bv], .string s, .int .i64 n] w
      fun e w' => (∃ p : Nat, Spot cCp L (tgtN s n) p ∧ e = .returned (.tuple #[.int .i64 p, .bool (isAt cCp L (tgtN s n) p)])) ∧ Below w.heap.size w w' := by
  have HL := hide hL
  have HR := hide hr
  obtain ⟨a1, k1, rfl⟩ := hL.form
  obtain ⟨a0, n0, k0, rfl⟩ := h0
  obtain ⟨a2, n2, k2, rfl⟩ := h2
  clear hL hr
  go_enter Tryz.func104, Tryz.ntmps104
  go_wp2_with fail
  generalize hWa : w.alloc _ = Wa
  have HB0 : Hid (Below w.heap.size w Wa) := by rw [← hWa]; exact one_al w _
  clear hWa
  refine (searchCp_any lo _ L (tgtN s n) _ (HL.out.below HB0.out) n1 (rises_cp HR.out _)).mono ?_
  rintro e w1 ⟨⟨p, hsp, rfl⟩, hb1⟩
  have HSP := hide hsp
  have HB1 := hide (bt HB0.out hb1)
  clear hsp hb1
  go_wp2
  exact bodyPost_ret (v := .tuple #[.int .i64 p, .bool (isAt cCp L (tgtN s n) p)]) (by simp [results, Tryz.results104, go_sem]) rfl ⟨⟨p, HSP.out, rfl⟩, HB1.out⟩
end Go.Proofs.YtaogpeebencnoaaGreatDoor
namespace Go.Proofs.YtaogpeebencnoaaGreatDoor
open Go.RowKit Go.Deep Go.Shelf

attribute [local go_sem] Oper.semAt_some

theorem grown_of_below {w w' : World} (h : Below w.heap.size w w') : w.grownBy w' none :=
  ⟨h.os, h.tape, h.output, h.size, fun k hk _ => h.block k hk⟩
theorem abides_below {β : Type} {B : Nat} {J : β → World → Prop} (h : AbidesFrom B J) {s : β} {W W' : World} (hs : J s W) (hb : Below W.heap.size W W') : J s W' :=
  h s W W' none hs (grown_of_below hb) (fun r e => by cases e)

/-- WHAT A LOOP'S BODY KEEPS: all cells, and all that lay below B, but for the blocks of S. -/
structure KeepsBut (S : Nat → Prop) (B : Nat) (W W' : World) : Prop where
  os : W'.os = W.os
  tape : W'.tape = W.tape
  output : W'.output = W.output
  size : W.heap.size ≤ W'.heap.size
  same : ∀ k o, W.heap[k]? = some o → ¬ S k → (o.isCells = true ∨ k < B) → W'.heap[k]? = some o
theorem KeepsBut.refl (S : Nat → Prop) (B : Nat) (W : World) : KeepsBut S B W W := ⟨rfl, rfl, rfl, Nat.le_refl _, fun _ _ h _ _ => h⟩
theorem KeepsBut.trans {S : Nat → Prop} {B : Nat} {W W' W'' : World} (h : KeepsBut S B W W') (k : KeepsBut S B W' W'') : KeepsBut S B W W'' :=
  ⟨k.os.trans h.os, k.tape.trans h.tape, k.output.trans h.output, Nat.le_trans h.size k.size, fun i o hi hs ho => k.same i o (h.same i o hi hs ho) hs ho⟩
theorem KeepsBut.put {S : Nat → Prop} {w : World} (W : World) (l : Nat) (o o' : Obj) (hl : w.heap.size ≤ l) (h : W.heap[l]? = some o) (hc : o.isCells = false) (_ : o.isWalk = false) : KeepsBut S w.heap.size W (W.putObj l o') := by
  have hg := grownBy_putObj' W l o'
  refine ⟨hg.os, hg.tape, hg.output, hg.size, fun k x hk _ hx => ?_⟩
  by_cases e : k = l
  · subst e
    rw [h] at hk
    cases hk
    rcases hx with hx | hx
    · rw [hc] at hx; cases hx
    · omega
  · rw [hg.block k (Array.getElem?_eq_some_iff.1 hk).1 (fun e' => e (Option.some.inj e'))]
    exact hk
theorem KeepsBut.below {S : Nat → Prop} {B m : Nat} {W W' : World} (h : KeepsBut S B W W') (hm : m ≤ W.heap.size) (hS : ∀ k, k < m → ¬ S k) (hB : m ≤ B) : Below m W W' := by
  refine ⟨h.os, h.tape, h.output, h.size, fun k hk => ?_⟩
  have hlt : k < W.heap.size := Nat.lt_of_lt_of_le hk hm
  rw [Array.getElem?_eq_getElem hlt]
  exact h.same k _ (Array.getElem?_eq_getElem hlt) (hS k hk) (Or.inr (Nat.lt_of_lt_of_le hk hB))
theorem KeepsBut.cell {S : Nat → Prop} {B : Nat} {W W' : World} {p : Addr} {v : Value} (h : KeepsBut S B W W') (hc : W.cell? p = some v) (hS : ¬ S p.block) : W'.cell? p = some v := by
  obtain ⟨o, ho, hc'⟩ := cells_of_cell hc
  exact (World.cell?_of_block ((h.same _ o ho hS (Or.inl hc')).trans ho.symm)).trans hc
theorem KeepsBut.set {S : Nat → Prop} {B : Nat} (W : World) (p : Addr) (u : Value) (hS : S p.block) : KeepsBut S B W (W.setCell p u) := by
  refine ⟨rfl, rfl, rfl, by simp [World.setCell], fun k o hk hs _ => ?_⟩
  rw [Below.heap_setCell W p u k (fun e => hs (e ▸ hS))]
  exact hk

theorem KeepsBut.grow {S : Nat → Prop} {B : Nat} {W W' : World} (h : W.grownBy W' none) : KeepsBut S B W W' :=
  ⟨h.os, h.tape, h.output, h.size, fun k o hk _ _ => (h.block k (Array.getElem?_eq_some_iff.1 hk).1 (by simp)).trans hk⟩
abbrev encK (x : Cp) : Array Value := #[.agg #[.string x.se, .int .i64 x.nu, .int .i64 x.ve, .int .i64 x.im, .int .i64 x.st, .bool x.en, .string x.be]]
theorem take_next {L : List Cp} {p k : Nat} (h : p + k < L.length) : (L.drop p).take (k + 1) = (L.drop p).take k ++ [L[p + k]] := by
  rw [List.take_succ_eq_append_getElem (by rw [List.length_drop]; omega), List.getElem_drop]
theorem take_len {L : List Cp} {p k : Nat} (h : p + k ≤ L.length) : ((L.drop p).take k).length = k := by
  rw [List.length_take, List.length_drop]; omega

section
variable (lo : Nat) (now : Int) (sv cv bv : Value) (L : List Cp) (s : ByteArray) (w : World)

set_option maxHeartbeats 1000000 in
theorem copiesOf_in (F : Fence) (n : Nat) (hf : F.fn 144) (hro : F.round = none) (a0 a1 a2 : Option Addr) (n0 n1 n2 k0 k1 k2 : Nat) :
    CallsIn F n Tryz.prog 144 #[.agg #[.int .i64 now, .slice a0 n0 k0, .slice a1 n1 k1, .slice a2 n2 k2], .string s] w
      fun e w' => e = .returned (.func (.func 147) #[] #[.pointer (some ⟨w.heap.size, 0, none⟩), .pointer (some ⟨w.heap.size + 1, 0, none⟩)]) ∧
        w' = (w.alloc (.cells #[.int .i64 now, .slice a0 n0 k0, .slice a1 n1 k1, .slice a2 n2 k2] 36)).alloc (.cells #[.string s] 9) := by
  refine callsIn_of_wp Tryz.func144 rfl hf ?_ hro
  simp only [Tryz.ntmps144, List.size_toArray, List.length_cons, List.length_nil, Nat.reduceAdd, Nat.reduceSub, Array.replicate_succ, Array.replicate_zero, List.push_toArray, List.append_toArray, List.nil_append, List.cons_append]
  gi_wp2
  go_ret
  exact ⟨rfl, rfl⟩

set_option maxRecDepth 100000 in
set_option maxHeartbeats 8000000 in
theorem copies_stops (n : Nat) (hn : 1 ≤ n) (S : Nat → Prop) (w0 : World) (B1 B2 : Nat) (h0 : Below w0.heap.size w0 w) (hL : CpsAt lo w0 cv L) (n1 : L.length ≤ 1048576) (hr : risR aheadB L = true) (hnu : ∀ i (h : i < L.length), 1 ≤ L[i].nu)
    (s0 : ∀ k, k < w0.heap.size → ¬ S k) (s2 : ¬ S B2)
    (hX1 : Box w B1 #[.int .i64 now, sv, cv, bv]) (hX2 : Box w B2 #[.string s]) (g0 : ∃ a n k, sv = .slice a n k) (g2 : ∃ a n k, bv = .slice a n k) :
    SeqStopsK Fence.wide n Tryz.prog 147 #[.pointer (some ⟨B1, 0, none⟩), .pointer (some ⟨B2, 0, none⟩)] encK (KeepsBut S w.heap.size) (fun xs => xs = L.filter (mineB s)) (fun _ => True) L.length w := by
  intro l J Jx W hW hJ hJx hY hJ0
  have HL := hide hL
  obtain ⟨ca, ccap, rfl⟩ := hL.form
  obtain ⟨a0, n0, k0, rfl⟩ := g0
  obtain ⟨a2, n2, k2, rfl⟩ := g2
  have H0 := hide (h0.trans (hW.mono h0.size))
  have HX1 := hide (hX1.below hW hX1.lt)
  have HX2 := hide (hX2.below hW hX2.lt)
  have hw : w.heap.size ≤ W.heap.size := hW.size
  have hw0 : w0.heap.size ≤ w.heap.size := h0.size
  have HJ := hide hJ
  have HY := hide hY
  have HR := hide hr
  have HNU := hide hnu
  have S0 := hide s0
  have S2 := hide s2
  have HJ0 := hide hJ0
  clear hL h0 hW hX1 hX2 hJ hJx hY hJ0 hr hnu s0 s2
  refine callsIn_of_wp Tryz.func147 rfl trivial ?_ rfl
  simp only [Tryz.ntmps147, List.size_toArray, List.length_cons, List.length_nil, Nat.reduceAdd, Nat.reduceSub, Array.replicate_succ, Array.replicate_zero, List.push_toArray, List.append_toArray, List.nil_append, List.cons_append]
  have o0 := HX1.out.cell 0
  have o1 := HX1.out.cell 1
  have o2 := HX1.out.cell 2
  have o3 := HX1.out.cell 3
  have q0 := HX2.out.cell 0
  simp at o0 o1 o2 o3 q0
  gi_wp2_with fail
  clear o0 o1 o3
  refine ⟨trivial, (callsIn_wide.2 (copyPlace_any lo now _ _ _ L s 0 W (HL.out.below H0.out) n1 HR.out ⟨_, _, _, rfl⟩ ⟨_, _, _, rfl⟩)).mono ?_⟩
  rintro e w1 ⟨⟨p, hsp, rfl⟩, hb1⟩
  have HSP := hide hsp
  have hp := hsp.le
  have HJ1 := hide (abides_below HJ.out HJ0.out hb1)
  have H1 := hide (bt H0.out hb1)
  have hw1 : w.heap.size ≤ w1.heap.size := Nat.le_trans hw hb1.size
  have o2 := (HX1.out.on hb1).cell 2
  have q0 := (HX2.out.on hb1).cell 0
  have qlt := (HX2.out.on hb1).lt
  simp at o2 q0
  clear hsp hb1 HX1 HX2 H0 HJ0
  by_cases hpl : p < L.length
  · have hcp : ¬ ccap = p := by
      rcases HL.out with ⟨_, _, _, h⟩ | ⟨_, _, cap, h, _, _, _, _, hc, _⟩
      · rw [h] at hpl; simp at hpl
      · injection h with _ _ h
        omega
    obtain ⟨b, off, rfl, hbw, -, hc⟩ := HL.out.full' (by omega)
    have HC := hide hc
    clear hc
    gi_wp2
    clear o2 hcp
    gi_loopw [19] (fun i wr => ∃ k : Nat, i = .int .i64 k ∧ p + k ≤ L.length ∧ J ((L.drop p).take k) wr ∧ Below w0.heap.size w0 wr ∧ wr.cell? ⟨B2, 0, none⟩ = some (.string s) ∧ B2 < wr.heap.size ∧ w.heap.size ≤ wr.heap.size ∧ (∀ i (h : i < L.length), p ≤ i → i < p + k → mineB s L[i] = true))
      (fun i _ => L.length - p - (intOf i).toNat)
    case atStart => exact ⟨0, rfl, by omega, HJ1.out, H1.out, q0, qlt, hw1, fun i _ h1 h2 => by omega⟩
    case round =>
      clear q0 qlt hw1
      obtain ⟨k, rfl, hk, hJk, hBk, q0, qlt, qw, hmi⟩ := hrel
      have HJK := hide hJk
      have HBK := hide hBk
      have HMI := hide hmi
      clear hJk hBk hmi HJ1 H1
      by_cases hlt : k < L.length - p
      · have hpk : p + k < L.length := by omega
        have hcc := (HC.out (p + k) hpk).2.below HBK.out hbw
        have ea : off + (p + k) * 7 = off + p * 7 + k * 7 := by omega
        rw [ea] at hcc
        obtain ⟨c0, c1, c2, c3, c4, c5, c6⟩ := hcc
        clear ea
        have HTN := hide (take_next hpk)
        obtain ⟨Wb, hWb, q0', HA, HAB, hzb⟩ : ∃ Wb, Wb = wr.alloc (.cells #[.string L[p + k].se, .int .i64 L[p + k].nu, .int .i64 L[p + k].ve, .int .i64 L[p + k].im, .int .i64 L[p + k].st, .bool L[p + k].en, .string L[p + k].be] 92) ∧ Wb.cell? ⟨B2, 0, none⟩ = some (.string s) ∧
            Hid (J ((L.drop p).take k) Wb) ∧ Hid (Below w0.heap.size w0 Wb) ∧ Wb.heap.size = wr.heap.size + 1 :=
          ⟨_, rfl, (cell_alloc_lt _ _ _ _ qlt).trans q0, abides_below HJ.out HJK.out (one_al _ _), HBK.out.trans ((one_al _ _).mono HBK.out.size), by simp⟩
        have q0b : ∀ o, (wr.alloc o).cell? ⟨B2, 0, none⟩ = some (.string s) := fun o => (cell_alloc_lt _ _ _ _ qlt).trans q0
        cases hm : (L[p + k].se.toList == s.toList) with
        | false =>
          have hm' : (L[p + k].se.toList != s.toList) = true := by simp only [bne, hm]; rfl
          have HE : Hid (L.filter (mineB s) = (L.drop p).take k) := run_all HSP.out HNU.out hk HMI.out (fun i hi hpi => by
            by_cases e : i = p + k
            · subst e; exact hm
            · exact mine_end HR.out HSP.out hpk (by omega) hm hi (by omega))
          gi_wp2
          all_goals (refine ⟨fun _ h => (by cases h), ?_⟩; gi_wp2)
          rw [← hWb]
          refine bodyPost_ret (results_none rfl _ _ _) rfl ?_
          exact ⟨⟨_, rfl⟩, .inl ⟨_, HE.out.symm, HA.out⟩⟩
        | true =>
          have hm' : (L[p + k].se.toList != s.toList) = false := by simp only [bne, hm]; rfl
          have HM := hide hm
          have hpl2 : ((L.drop p).take k).length < L.length := by rw [take_len hk]; omega
          have HAw : Hid (J ((L.drop p).take k) (wr.alloc (.cells #[.string L[p + k].se, .int .i64 L[p + k].nu, .int .i64 L[p + k].ve, .int .i64 L[p + k].im, .int .i64 L[p + k].st, .bool L[p + k].en, .string L[p + k].be] 92))) := by unfold Hid; rw [← hWb]; exact HA.out
          obtain ⟨fn, tmps, assign, body, hy, hR⟩ := HY.out _ L[p + k] _ HAw.out hpl2
          dsimp only [encK] at hy
          have HRn := hide hR
          clear hR hpl2
          gi_wp2
          refine HRn.out.mono ?_
          rw [← hWb]
          rintro e W3 (⟨rfl, hJ3, hk3⟩ | ⟨rfl, hJx3⟩)
          · have HJ3 := hide hJ3
            have r3 := hk3.cell q0' S2.out
            have rB : Hid (Below w0.heap.size w0 W3) := HAB.out.trans (hk3.below HAB.out.size S0.out hw0)
            have rz := hk3.size
            clear hk3 hJ3 hy
            gi_wp2
            go_roundw
            case rel => exact ⟨k + 1, by go_num, by omega, by rw [HTN.out]; exact HJ3.out, rB.out, r3, by omega, by omega, fun i hi h1 h2 => by
                          by_cases e : i = p + k
                          · subst e; exact HM.out
                          · exact HMI.out i hi h1 (by omega)⟩
            case measure => simp [intOf]; omega
          · have HX3 := hide hJx3
            clear hJx3 hy
            gi_wp2
            refine bodyPost_ret (results_none rfl _ _ _) rfl ?_
            exact ⟨⟨_, rfl⟩, .inr ⟨_, trivial, HX3.out⟩⟩
      · have HE : Hid (L.filter (mineB s) = (L.drop p).take k) := run_all HSP.out HNU.out hk HMI.out (fun i hi hpi => by omega)
        have hkl : k = L.length - p := by omega
        subst hkl
        gi_wp2
        go_end0
        exact ⟨⟨_, rfl⟩, .inl ⟨_, HE.out.symm, HJK.out⟩⟩
  · have hpe : L.length - p = 0 := by omega
    have HE : Hid (L.filter (mineB s) = []) := by
      unfold Hid
      have := run_all (k := 0) HSP.out HNU.out (by omega) (fun i _ h1 h2 => by omega) (fun i hi hpi => by omega)
      rw [this]
      rfl
    gi_wp2
    all_goals
      gi_loopw [19] (fun i wr => i = .int .i64 0 ∧ wr = w1) (fun _ _ => 0)
      case atStart => exact ⟨rfl, rfl⟩
      case round =>
        obtain ⟨rfl, rfl⟩ := hrel
        gi_wp2
        go_end0
        exact ⟨⟨_, rfl⟩, .inl ⟨_, HE.out.symm, HJ1.out⟩⟩
end
end Go.Proofs.YtaogpeebencnoaaGreatDoor
namespace Go.Proofs.YtaogpeebencnoaaGreatDoor
open Go.RowKit Go.Deep Go.Shelf

attribute [local go_sem] Oper.semAt_some

theorem Box.ofBlk {w w' : World} {β : Nat} {cs : Array Value} (h : Box w β cs) (e : w'.heap[β]? = w.heap[β]?) : Box w' β cs :=
  ⟨by have := h.lt; rw [Array.getElem?_eq_getElem this] at e; exact (Array.getElem?_eq_some_iff.1 e).1, fun i => (World.cell?_of_block (a := ⟨β, i, none⟩) e).trans (h.cell i), fun i => (World.frozen?_of_block (a := ⟨β, i, none⟩) e).trans (h.free i)⟩
/-- only cells of one block were written -/
structure Sets (β : Nat) (W W' : World) : Prop where
  ko : KeepsOthers W W'
  kb : ∀ (S : Nat → Prop) (B : Nat), S β → KeepsBut S B W W'
  bl : ∀ n, n ≤ β → Below n W W'
  oth : ∀ b, b ≠ β → W'.heap[b]? = W.heap[b]?
  sz : W'.heap.size = W.heap.size
theorem Sets.refl (β : Nat) (W : World) : Sets β W W := ⟨KeepsOthers.refl _, fun _ _ _ => KeepsBut.refl _ _ _, fun _ _ => Below.refl _ _, fun _ _ => rfl, rfl⟩
theorem Sets.set {β : Nat} {W W' : World} (h : Sets β W W') (k : Nat) (u : Value) : Sets β W (W'.setCell ⟨β, k, none⟩ u) :=
  ⟨h.ko.trans (KeepsOthers.setCell _ _ _), fun S B hS => (h.kb S B hS).trans (KeepsBut.set _ _ _ hS), fun n hn => (h.bl n hn).setCell hn u, fun b hb => (Below.heap_setCell _ _ _ b hb).trans (h.oth b hb), by rw [← h.sz]; simp [World.setCell]⟩
/-- counts over the copies of one service -/
def lvQ (c : Cp) : Bool := !c.en
def rdQ (c : Cp) : Bool := !c.en && (c.st == 3)
def olQ (im : Int) (c : Cp) : Bool := !c.en && (c.im != im)
def faQ (c : Cp) : Bool := !c.en && (c.st == 4)
def enQ (c : Cp) : Bool := c.en
theorem ct_snoc (p : Cp → Bool) (pre : List Cp) (c : Cp) : ct p (pre ++ [c]) = ct p pre + (if p c then 1 else 0) := by
  unfold ct
  rw [List.countP_append, List.countP_singleton]
  split <;> simp
theorem ct_bd (p : Cp → Bool) (L : List Cp) : 0 ≤ ct p L ∧ ct p L ≤ L.length := by
  unfold ct
  have := List.countP_le_length (p := p) (l := L)
  omega
theorem ct_filter {p q r : Cp → Bool} (h : ∀ c, r c = (q c && p c)) (L : List Cp) : ct p (L.filter q) = ct r L := by
  unfold ct
  rw [List.countP_filter]
  congr 1
  exact List.countP_congr fun c _ => by rw [h c, Bool.and_comm]
theorem ctL_filter (L : List Cp) (s : ByteArray) (im : Int) : ctL L s im = ⟨ct lvQ (L.filter (mineB s)), ct rdQ (L.filter (mineB s)), ct (olQ im) (L.filter (mineB s)), ct faQ (L.filter (mineB s)), ct enQ (L.filter (mineB s))⟩ := by
  unfold ctL
  rw [ct_filter (p := lvQ) (r := liveB s) (fun c => rfl), ct_filter (p := rdQ) (r := rdyB s) (fun c => by simp only [rdyB, liveB, rdQ, Bool.and_assoc]), ct_filter (p := olQ im) (r := oldB s im) (fun c => by simp only [oldB, liveB, olQ, Bool.and_assoc]),
    ct_filter (p := faQ) (r := falB s) (fun c => by simp only [falB, liveB, faQ, Bool.and_assoc]), ct_filter (p := enQ) (r := endB s) (fun c => rfl)]
abbrev cnt5 (im : Int) (pre : List Cp) : Array Value := #[.int .i64 (ct lvQ pre), .int .i64 (ct rdQ pre), .int .i64 (ct (olQ im) pre), .int .i64 (ct faQ pre), .int .i64 (ct enQ pre)]
/-- the world while copies are counted -/
structure CntW (w : World) (x : Sv) (pre : List Cp) (W : World) : Prop where
  svc : Box W (w.heap.size + 1) #[.string x.nm, .int .i64 x.ve, .bool x.gn, .int .i64 x.im, .int .i64 x.wa, .int .i64 x.dn, .int .i64 x.ov, .int .i64 x.nx, .int .i64 x.pr, .int .i64 x.ls, .int .i64 x.ms, .int .i64 x.ld, .int .i64 x.cl]
  res : Box W (w.heap.size + 1 + 1) #[.int .i64 0, .int .i64 0, .int .i64 0, .int .i64 0, .int .i64 0]
  cnt : Box W (w.heap.size + 1 + 1 + 1) (cnt5 x.im pre)
  below : Below w.heap.size w W
  big : w.heap.size + 6 ≤ W.heap.size
theorem CntW.grow {w : World} {x : Sv} {pre : List Cp} {W W' : World} {row : Option Nat} (h : CntW w x pre W) (hg : W.grownBy W' row) (hr : ∀ r, row = some r → w.heap.size + 6 ≤ r) : CntW w x pre W' :=
  ⟨h.svc.ofBlk (hg.block _ h.svc.lt (fun e => by have := hr _ e.symm; omega)), h.res.ofBlk (hg.block _ h.res.lt (fun e => by have := hr _ e.symm; omega)), h.cnt.ofBlk (hg.block _ h.cnt.lt (fun e => by have := hr _ e.symm; omega)),
    h.below.trans ⟨hg.os, hg.tape, hg.output, hg.size, fun k hk => hg.block k (by have := h.below.size; omega) (fun e => by have := hr _ e.symm; omega)⟩, Nat.le_trans h.big hg.size⟩

section
variable (lo : Nat) (now : Int) (sv cv bv : Value) (L : List Cp) (x : Sv) (w : World)

set_option maxRecDepth 100000 in
set_option maxHeartbeats 8000000 in
theorem countIn_any (hL : CpsAt lo w cv L) (n1 : L.length ≤ 1048576) (hr : risR aheadB L = true) (hnu : ∀ i (h : i < L.length), 1 ≤ L[i].nu) (h0 : ∃ a n k, sv = .slice a n k) (h2 : ∃ a n k, bv = .slice a n k) :
    Calls Tryz.prog 134 #[.agg #[.int .i64 now, sv, cv, bv], .agg #[.string x.nm, .int .i64 x.ve, .bool x.gn, .int .i64 x.im, .int .i64 x.wa, .int .i64 x.dn, .int .i64 x.ov, .int .i64 x.nx, .int .i64 x.pr, .int .i64 x.ls, .int .i64 x.ms, .int .i64 x.ld, .int .i64 x.cl]] w
      fun e w' => ∃ c : Ct, e = .returned (.agg #[.int .i64 c.li, .int .i64 c.re, .int .i64 c.ol, .int .i64 c.fa, .int .i64 c.en]) ∧ Hid (c = ctL L x.nm x.im) ∧ Below w.heap.size w w' := by
  have HL := hide hL
  have HR := hide hr
  have HNU := hide hnu
  obtain ⟨a1, k1, rfl⟩ := hL.form
  obtain ⟨a0, n0, k0, rfl⟩ := h0
  obtain ⟨a2, n2, k2, rfl⟩ := h2
  clear hL hr hnu
  refine (callsIn_wide (n := 5)).1 ?_
  refine callsIn_of_wp_marks Tryz.func134 rfl trivial ?_ rfl
  simp only [Tryz.ntmps134, List.size_toArray, List.length_cons, List.length_nil, Nat.reduceAdd, Nat.reduceSub, Array.replicate_succ, Array.replicate_zero, List.push_toArray, List.append_toArray, List.nil_append, List.cons_append]
  gi_wp2_with fail
  refine ⟨trivial, (copiesOf_in now x.nm _ Fence.wide _ trivial rfl a0 a1 a2 n0 L.length n2 k0 k1 k2).mono ?_⟩
  rintro e w1 ⟨rfl, hw1⟩
  obtain ⟨wl, hwl, HX1, HX2, HW, hsz⟩ : ∃ wl, wl = w1 ∧ Hid (Box wl (w.heap.size + 1 + 1 + 1 + 1) #[.int .i64 now, .slice a0 n0 k0, .slice a1 L.length k1, .slice a2 n2 k2]) ∧ Hid (Box wl (w.heap.size + 1 + 1 + 1 + 1 + 1) #[.string x.nm]) ∧ Hid (CntW w x [] wl) ∧ wl.heap.size = w.heap.size + 6 := by
    subst hw1
    refine ⟨_, rfl, (Box.new _ _ _ _ (by simp)).on (one_al _ _), Box.new _ _ _ _ (by simp), ⟨?_, ?_, ?_, ?_, by simp⟩, by simp⟩
    · exact ((((Box.new _ _ _ _ (by simp)).on (one_al _ _)).on (one_al _ _)).on (one_al _ _)).on (one_al _ _)
    · exact (((Box.new _ _ _ _ (by simp)).on (one_al _ _)).on (one_al _ _)).on (one_al _ _)
    · exact ((Box.new _ _ _ _ (by simp)).on (one_al _ _)).on (one_al _ _)
    · exact (((((one_al _ _).trans ((one_al _ _).mono (by simp))).trans ((one_al _ _).mono (by simp; omega))).trans ((one_al _ _).mono (by simp; omega))).trans ((one_al _ _).mono (by simp; omega))).trans ((one_al _ _).mono (by simp; omega))
  subst hwl
  clear hw1
  gi_wp2_with fail
  refine wpIn_rangeFunc_ownH rfl (by decide) (gf := 147) (lb := #[.pointer (some ⟨w.heap.size + 1 + 1 + 1 + 1, 0, none⟩), .pointer (some ⟨w.heap.size + 1 + 1 + 1 + 1 + 1, 0, none⟩)]) rfl trivial (enters_of Tryz.func147 (by kernel_rfl) rfl)
    (copies_stops lo now _ _ _ L x.nm wl _ (by decide) (fun k => k = w.heap.size + 1 + 1 + 1) w _ _ HW.out.below HL.out n1 HR.out HNU.out (fun k hk he => by omega) (by omega) HX1.out HX2.out ⟨_, _, _, rfl⟩ ⟨_, _, _, rfl⟩)
    KeepsBut.trans KeepsBut.put (Below.refl _ _) (fun _ => rfl)
    (fun pre W => CntW w x pre W)
    (fun _ _ _ => False)
    (fun s A B row hs hg hr => hs.grow hg (fun r e => by have := (hr r e).1; omega))
    (fun _ _ _ _ _ hs _ _ => hs)
    HW.out
    (fun y a' W => ∃ β : Nat, w.heap.size + 6 ≤ β ∧ a' = { tmps := #[.agg #[.int .i64 now, .slice a0 n0 k0, .slice a1 L.length k1, .slice a2 n2 k2], .agg #[.string x.nm, .int .i64 x.ve, .bool x.gn, .int .i64 x.im, .int .i64 x.wa, .int .i64 x.dn, .int .i64 x.ov, .int .i64 x.nx, .int .i64 x.pr, .int .i64 x.ls, .int .i64 x.ms, .int .i64 x.ld, .int .i64 x.cl], .pointer (some ⟨w.heap.size, 0, none⟩), .pointer (some ⟨w.heap.size + 1, 0, none⟩), .pointer (some ⟨w.heap.size + 1 + 1, 0, none⟩), .pointer (some ⟨w.heap.size + 1 + 1 + 1, 0, none⟩), .pointer (some ⟨β, 0, none⟩), .agg #[.int .i64 now, .slice a0 n0 k0, .slice a1 L.length k1, .slice a2 n2 k2], .pointer (some ⟨w.heap.size + 1, 0, none⟩), .string x.nm, .func (.func 147) #[] #[.pointer (some ⟨w.heap.size + 1 + 1 + 1 + 1, 0, none⟩), .pointer (some ⟨w.heap.size + 1 + 1 + 1 + 1 + 1, 0, none⟩)], .agg #[.string y.se, .int .i64 y.nu, .int .i64 y.ve, .int .i64 y.im, .int .i64 y.st, .bool y.en, .string y.be], undef, undef, undef, undef, undef, undef, undef, undef, undef, undef, undef, undef, undef, undef, undef, undef, undef, undef, undef, undef, undef, undef, undef, undef, undef, undef, undef, undef, undef, undef, undef, undef, undef, undef], defers := [] } ∧ Box W β #[.string y.se, .int .i64 y.nu, .int .i64 y.ve, .int .i64 y.im, .int .i64 y.st, .bool y.en, .string y.be])
    (fun y a' s A B row hs hg hr => by
      obtain ⟨β, hβ, e1, e2⟩ := hs
      exact ⟨β, hβ, e1, e2.ofBlk (hg.block _ e2.lt (fun e => by
        obtain ⟨-, o, ho, hc⟩ := hr _ e.symm
        obtain ⟨o', ho', hc'⟩ := cells_of_cell (e2.cell 0)
        rw [ho] at ho'
        cases ho'
        rw [hc] at hc'
        cases hc'))⟩) ?assign ?body ?done ?stop
  case assign =>
    intro l pre y W K hI hK
    have HI := hide hI
    have HK := hide hK
    have hz := hI.below.size
    have hz6 := hI.big
    clear hI hK
    gi_wp2
    refine HK.out _ _ ((KeepsOthers.alloc _ _).from _) (KeepsBut.grow (World.grownBy_alloc _ _ none)) (HI.out.grow (World.grownBy_alloc _ _ none) (fun r e => by cases e)) ⟨W.heap.size, hz6, rfl, Box.new _ _ _ _ rfl⟩
  case body =>
    rintro l pre y a' W hll hrec hI ⟨β, hβ, rfl, hY⟩ hlen
    have HI := hide hI
    have y3 := hY.cell 3
    have y4 := hY.cell 4
    have y5 := hY.cell 5
    have x3 := hI.svc.cell 3
    simp at y3 y4 y5 x3
    have hn2 : pre.length ≤ 1048576 := by omega
    obtain ⟨li, eli⟩ : ∃ z, z = ct lvQ pre := ⟨_, rfl⟩
    obtain ⟨re, ere⟩ : ∃ z, z = ct rdQ pre := ⟨_, rfl⟩
    obtain ⟨ol, eol⟩ : ∃ z, z = ct (olQ x.im) pre := ⟨_, rfl⟩
    obtain ⟨fa, efa⟩ : ∃ z, z = ct faQ pre := ⟨_, rfl⟩
    obtain ⟨en, een⟩ : ∃ z, z = ct enQ pre := ⟨_, rfl⟩
    have HCB : Hid (Box W (w.heap.size + 1 + 1 + 1) #[.int .i64 li, .int .i64 re, .int .i64 ol, .int .i64 fa, .int .i64 en]) := by
      unfold Hid
      rw [eli, ere, eol, efa, een]
      exact hI.cnt
    have b0 : 0 ≤ li ∧ li ≤ 1048576 := by have := ct_bd lvQ pre; omega
    have b1 : 0 ≤ re ∧ re ≤ 1048576 := by have := ct_bd rdQ pre; omega
    have b2 : 0 ≤ ol ∧ ol ≤ 1048576 := by have := ct_bd (olQ x.im) pre; omega
    have b3 : 0 ≤ fa ∧ fa ≤ 1048576 := by have := ct_bd faQ pre; omega
    have b4 : 0 ≤ en ∧ en ≤ 1048576 := by have := ct_bd enQ pre; omega
    have v0 : IntKind.i64.wrap (li + 1) = li + 1 := by rw [IntWalk.i64_left]; unfold wrap64; omega
    have v1 : IntKind.i64.wrap (re + 1) = re + 1 := by rw [IntWalk.i64_left]; unfold wrap64; omega
    have v2 : IntKind.i64.wrap (ol + 1) = ol + 1 := by rw [IntWalk.i64_left]; unfold wrap64; omega
    have v3 : IntKind.i64.wrap (fa + 1) = fa + 1 := by rw [IntWalk.i64_left]; unfold wrap64; omega
    have v4 : IntKind.i64.wrap (en + 1) = en + 1 := by rw [IntWalk.i64_left]; unfold wrap64; omega
    have HCN : Hid (∀ y : Cp, cnt5 x.im (pre ++ [y]) = #[.int .i64 (li + if lvQ y then 1 else 0), .int .i64 (re + if rdQ y then 1 else 0), .int .i64 (ol + if olQ x.im y then 1 else 0), .int .i64 (fa + if faQ y then 1 else 0), .int .i64 (en + if enQ y then 1 else 0)]) := fun y => by
      unfold cnt5
      rw [ct_snoc, ct_snoc, ct_snoc, ct_snoc, ct_snoc, eli, ere, eol, efa, een]
    have m0 := HCB.out.cell 0
    have m1 := HCB.out.cell 1
    have m2 := HCB.out.cell 2
    have m3 := HCB.out.cell 3
    have m4 := HCB.out.cell 4
    have f0 := HCB.out.free
    simp at m0 m1 m2 m3 m4
    clear eli ere eol efa een b0 b1 b2 b3 b4
    have HS : Hid (∀ W', Box W' (w.heap.size + 1 + 1 + 1) (cnt5 x.im (pre ++ [y])) → Below w.heap.size w W' → w.heap.size + 6 ≤ W'.heap.size → (∀ b, b ≠ w.heap.size + 1 + 1 + 1 → W'.heap[b]? = W.heap[b]?) → CntW w x (pre ++ [y]) W') := fun W' h1 h2 hbg h3 =>
      ⟨HI.out.svc.ofBlk (h3 _ (by omega)), HI.out.res.ofBlk (h3 _ (by omega)), h1, h2, hbg⟩
    clear hI hY hrec hn2 hlen
    cases q5 : y.en with
    | true =>
      have HE : Hid (cnt5 x.im (pre ++ [y]) = #[.int .i64 (li), .int .i64 (re), .int .i64 (ol), .int .i64 (fa), .int .i64 (en + 1)]) := by
        unfold Hid
        rw [HCN.out]
        simp [lvQ, rdQ, olQ, faQ, enQ, q5]
      gi_wp2
      have hst : Sets (w.heap.size + 1 + 1 + 1) W (W.setCell ⟨w.heap.size + 1 + 1 + 1, 4, none⟩ (.int .i64 (en + 1))) := (Sets.refl _ _).set _ _
      have hbx : Box (W.setCell ⟨w.heap.size + 1 + 1 + 1, 4, none⟩ (.int .i64 (en + 1))) (w.heap.size + 1 + 1 + 1) #[.int .i64 (li), .int .i64 (re), .int .i64 (ol), .int .i64 (fa), .int .i64 (en + 1)] := (HCB.out.set (k := 4) (.int .i64 (en + 1)) (by simp))
      generalize (W.setCell ⟨w.heap.size + 1 + 1 + 1, 4, none⟩ (.int .i64 (en + 1))) = W' at *
      exact ⟨hst.ko.from _, hst.kb _ _ rfl, HS.out W' (by rw [HE.out]; exact hbx) (HI.out.below.trans (hst.bl _ (by omega))) (by have := HI.out.big; have := hst.sz; omega) hst.oth⟩
    | false =>
      cases q3 : (y.st == 3) with
      | true =>
        have q4 : (y.st == 4) = false := by have := beq_iff_eq.1 q3; rw [this]; rfl
        cases q6 : (y.im != x.im) with
        | true =>
          have HE : Hid (cnt5 x.im (pre ++ [y]) = #[.int .i64 (li + 1), .int .i64 (re + 1), .int .i64 (ol + 1), .int .i64 (fa), .int .i64 (en)]) := by
            unfold Hid
            rw [HCN.out]
            simp [lvQ, rdQ, olQ, faQ, enQ, q5, q3, q4, q6]
          gi_wp2
          have hst : Sets (w.heap.size + 1 + 1 + 1) W (((W.setCell ⟨w.heap.size + 1 + 1 + 1, 0, none⟩ (.int .i64 (li + 1))).setCell ⟨w.heap.size + 1 + 1 + 1, 1, none⟩ (.int .i64 (re + 1))).setCell ⟨w.heap.size + 1 + 1 + 1, 2, none⟩ (.int .i64 (ol + 1))) := (((Sets.refl _ _).set _ _).set _ _).set _ _
          have hbx : Box (((W.setCell ⟨w.heap.size + 1 + 1 + 1, 0, none⟩ (.int .i64 (li + 1))).setCell ⟨w.heap.size + 1 + 1 + 1, 1, none⟩ (.int .i64 (re + 1))).setCell ⟨w.heap.size + 1 + 1 + 1, 2, none⟩ (.int .i64 (ol + 1))) (w.heap.size + 1 + 1 + 1) #[.int .i64 (li + 1), .int .i64 (re + 1), .int .i64 (ol + 1), .int .i64 (fa), .int .i64 (en)] := (((HCB.out.set (k := 0) (.int .i64 (li + 1)) (by simp)).set (k := 1) (.int .i64 (re + 1)) (by simp)).set (k := 2) (.int .i64 (ol + 1)) (by simp))
          generalize (((W.setCell ⟨w.heap.size + 1 + 1 + 1, 0, none⟩ (.int .i64 (li + 1))).setCell ⟨w.heap.size + 1 + 1 + 1, 1, none⟩ (.int .i64 (re + 1))).setCell ⟨w.heap.size + 1 + 1 + 1, 2, none⟩ (.int .i64 (ol + 1))) = W' at *
          exact ⟨hst.ko.from _, hst.kb _ _ rfl, HS.out W' (by rw [HE.out]; exact hbx) (HI.out.below.trans (hst.bl _ (by omega))) (by have := HI.out.big; have := hst.sz; omega) hst.oth⟩
        | false =>
          have HE : Hid (cnt5 x.im (pre ++ [y]) = #[.int .i64 (li + 1), .int .i64 (re + 1), .int .i64 (ol), .int .i64 (fa), .int .i64 (en)]) := by
            unfold Hid
            rw [HCN.out]
            simp [lvQ, rdQ, olQ, faQ, enQ, q5, q3, q4, q6]
          gi_wp2
          have hst : Sets (w.heap.size + 1 + 1 + 1) W ((W.setCell ⟨w.heap.size + 1 + 1 + 1, 0, none⟩ (.int .i64 (li + 1))).setCell ⟨w.heap.size + 1 + 1 + 1, 1, none⟩ (.int .i64 (re + 1))) := ((Sets.refl _ _).set _ _).set _ _
          have hbx : Box ((W.setCell ⟨w.heap.size + 1 + 1 + 1, 0, none⟩ (.int .i64 (li + 1))).setCell ⟨w.heap.size + 1 + 1 + 1, 1, none⟩ (.int .i64 (re + 1))) (w.heap.size + 1 + 1 + 1) #[.int .i64 (li + 1), .int .i64 (re + 1), .int .i64 (ol), .int .i64 (fa), .int .i64 (en)] := ((HCB.out.set (k := 0) (.int .i64 (li + 1)) (by simp)).set (k := 1) (.int .i64 (re + 1)) (by simp))
          generalize ((W.setCell ⟨w.heap.size + 1 + 1 + 1, 0, none⟩ (.int .i64 (li + 1))).setCell ⟨w.heap.size + 1 + 1 + 1, 1, none⟩ (.int .i64 (re + 1))) = W' at *
          exact ⟨hst.ko.from _, hst.kb _ _ rfl, HS.out W' (by rw [HE.out]; exact hbx) (HI.out.below.trans (hst.bl _ (by omega))) (by have := HI.out.big; have := hst.sz; omega) hst.oth⟩
      | false =>
        cases q4 : (y.st == 4) with
        | true =>
          cases q6 : (y.im != x.im) with
          | true =>
            have HE : Hid (cnt5 x.im (pre ++ [y]) = #[.int .i64 (li + 1), .int .i64 (re), .int .i64 (ol + 1), .int .i64 (fa + 1), .int .i64 (en)]) := by
              unfold Hid
              rw [HCN.out]
              simp [lvQ, rdQ, olQ, faQ, enQ, q5, q3, q4, q6]
            gi_wp2
            have hst : Sets (w.heap.size + 1 + 1 + 1) W (((W.setCell ⟨w.heap.size + 1 + 1 + 1, 0, none⟩ (.int .i64 (li + 1))).setCell ⟨w.heap.size + 1 + 1 + 1, 3, none⟩ (.int .i64 (fa + 1))).setCell ⟨w.heap.size + 1 + 1 + 1, 2, none⟩ (.int .i64 (ol + 1))) := (((Sets.refl _ _).set _ _).set _ _).set _ _
            have hbx : Box (((W.setCell ⟨w.heap.size + 1 + 1 + 1, 0, none⟩ (.int .i64 (li + 1))).setCell ⟨w.heap.size + 1 + 1 + 1, 3, none⟩ (.int .i64 (fa + 1))).setCell ⟨w.heap.size + 1 + 1 + 1, 2, none⟩ (.int .i64 (ol + 1))) (w.heap.size + 1 + 1 + 1) #[.int .i64 (li + 1), .int .i64 (re), .int .i64 (ol + 1), .int .i64 (fa + 1), .int .i64 (en)] := (((HCB.out.set (k := 0) (.int .i64 (li + 1)) (by simp)).set (k := 3) (.int .i64 (fa + 1)) (by simp)).set (k := 2) (.int .i64 (ol + 1)) (by simp))
            generalize (((W.setCell ⟨w.heap.size + 1 + 1 + 1, 0, none⟩ (.int .i64 (li + 1))).setCell ⟨w.heap.size + 1 + 1 + 1, 3, none⟩ (.int .i64 (fa + 1))).setCell ⟨w.heap.size + 1 + 1 + 1, 2, none⟩ (.int .i64 (ol + 1))) = W' at *
            exact ⟨hst.ko.from _, hst.kb _ _ rfl, HS.out W' (by rw [HE.out]; exact hbx) (HI.out.below.trans (hst.bl _ (by omega))) (by have := HI.out.big; have := hst.sz; omega) hst.oth⟩
          | false =>
            have HE : Hid (cnt5 x.im (pre ++ [y]) = #[.int .i64 (li + 1), .int .i64 (re), .int .i64 (ol), .int .i64 (fa + 1), .int .i64 (en)]) := by
              unfold Hid
              rw [HCN.out]
              simp [lvQ, rdQ, olQ, faQ, enQ, q5, q3, q4, q6]
            gi_wp2
            have hst : Sets (w.heap.size + 1 + 1 + 1) W ((W.setCell ⟨w.heap.size + 1 + 1 + 1, 0, none⟩ (.int .i64 (li + 1))).setCell ⟨w.heap.size + 1 + 1 + 1, 3, none⟩ (.int .i64 (fa + 1))) := ((Sets.refl _ _).set _ _).set _ _
            have hbx : Box ((W.setCell ⟨w.heap.size + 1 + 1 + 1, 0, none⟩ (.int .i64 (li + 1))).setCell ⟨w.heap.size + 1 + 1 + 1, 3, none⟩ (.int .i64 (fa + 1))) (w.heap.size + 1 + 1 + 1) #[.int .i64 (li + 1), .int .i64 (re), .int .i64 (ol), .int .i64 (fa + 1), .int .i64 (en)] := ((HCB.out.set (k := 0) (.int .i64 (li + 1)) (by simp)).set (k := 3) (.int .i64 (fa + 1)) (by simp))
            generalize ((W.setCell ⟨w.heap.size + 1 + 1 + 1, 0, none⟩ (.int .i64 (li + 1))).setCell ⟨w.heap.size + 1 + 1 + 1, 3, none⟩ (.int .i64 (fa + 1))) = W' at *
            exact ⟨hst.ko.from _, hst.kb _ _ rfl, HS.out W' (by rw [HE.out]; exact hbx) (HI.out.below.trans (hst.bl _ (by omega))) (by have := HI.out.big; have := hst.sz; omega) hst.oth⟩
        | false =>
          cases q6 : (y.im != x.im) with
          | true =>
            have HE : Hid (cnt5 x.im (pre ++ [y]) = #[.int .i64 (li + 1), .int .i64 (re), .int .i64 (ol + 1), .int .i64 (fa), .int .i64 (en)]) := by
              unfold Hid
              rw [HCN.out]
              simp [lvQ, rdQ, olQ, faQ, enQ, q5, q3, q4, q6]
            gi_wp2
            have hst : Sets (w.heap.size + 1 + 1 + 1) W ((W.setCell ⟨w.heap.size + 1 + 1 + 1, 0, none⟩ (.int .i64 (li + 1))).setCell ⟨w.heap.size + 1 + 1 + 1, 2, none⟩ (.int .i64 (ol + 1))) := ((Sets.refl _ _).set _ _).set _ _
            have hbx : Box ((W.setCell ⟨w.heap.size + 1 + 1 + 1, 0, none⟩ (.int .i64 (li + 1))).setCell ⟨w.heap.size + 1 + 1 + 1, 2, none⟩ (.int .i64 (ol + 1))) (w.heap.size + 1 + 1 + 1) #[.int .i64 (li + 1), .int .i64 (re), .int .i64 (ol + 1), .int .i64 (fa), .int .i64 (en)] := ((HCB.out.set (k := 0) (.int .i64 (li + 1)) (by simp)).set (k := 2) (.int .i64 (ol + 1)) (by simp))
            generalize ((W.setCell ⟨w.heap.size + 1 + 1 + 1, 0, none⟩ (.int .i64 (li + 1))).setCell ⟨w.heap.size + 1 + 1 + 1, 2, none⟩ (.int .i64 (ol + 1))) = W' at *
            exact ⟨hst.ko.from _, hst.kb _ _ rfl, HS.out W' (by rw [HE.out]; exact hbx) (HI.out.below.trans (hst.bl _ (by omega))) (by have := HI.out.big; have := hst.sz; omega) hst.oth⟩
          | false =>
            have HE : Hid (cnt5 x.im (pre ++ [y]) = #[.int .i64 (li + 1), .int .i64 (re), .int .i64 (ol), .int .i64 (fa), .int .i64 (en)]) := by
              unfold Hid
              rw [HCN.out]
              simp [lvQ, rdQ, olQ, faQ, enQ, q5, q3, q4, q6]
            gi_wp2
            have hst : Sets (w.heap.size + 1 + 1 + 1) W (W.setCell ⟨w.heap.size + 1 + 1 + 1, 0, none⟩ (.int .i64 (li + 1))) := (Sets.refl _ _).set _ _
            have hbx : Box (W.setCell ⟨w.heap.size + 1 + 1 + 1, 0, none⟩ (.int .i64 (li + 1))) (w.heap.size + 1 + 1 + 1) #[.int .i64 (li + 1), .int .i64 (re), .int .i64 (ol), .int .i64 (fa), .int .i64 (en)] := (HCB.out.set (k := 0) (.int .i64 (li + 1)) (by simp))
            generalize (W.setCell ⟨w.heap.size + 1 + 1 + 1, 0, none⟩ (.int .i64 (li + 1))) = W' at *
            exact ⟨hst.ko.from _, hst.kb _ _ rfl, HS.out W' (by rw [HE.out]; exact hbx) (HI.out.below.trans (hst.bl _ (by omega))) (by have := HI.out.big; have := hst.sz; omega) hst.oth⟩
  case done =>
    rintro Dd ys W hD rfl hI hK
    have HI := hide hI
    have HRES := hide (ctL_filter L x.nm x.im)
    have m0 := hI.cnt.cell
    have r0 := hI.res.cell
    have g0 := hI.res.free
    clear hI
    gi_wp2
    have hst : Sets (w.heap.size + 1 + 1) W (((((W.setCell ⟨w.heap.size + 1 + 1, 0, none⟩ (.int .i64 (ct lvQ (L.filter (mineB x.nm))))).setCell ⟨w.heap.size + 1 + 1, 1, none⟩ (.int .i64 (ct rdQ (L.filter (mineB x.nm))))).setCell ⟨w.heap.size + 1 + 1, 2, none⟩ (.int .i64 (ct (olQ x.im) (L.filter (mineB x.nm))))).setCell ⟨w.heap.size + 1 + 1, 3, none⟩ (.int .i64 (ct faQ (L.filter (mineB x.nm))))).setCell ⟨w.heap.size + 1 + 1, 4, none⟩ (.int .i64 (ct enQ (L.filter (mineB x.nm))))) := (((((Sets.refl _ _).set _ _).set _ _).set _ _).set _ _).set _ _
    have hbx : Box (((((W.setCell ⟨w.heap.size + 1 + 1, 0, none⟩ (.int .i64 (ct lvQ (L.filter (mineB x.nm))))).setCell ⟨w.heap.size + 1 + 1, 1, none⟩ (.int .i64 (ct rdQ (L.filter (mineB x.nm))))).setCell ⟨w.heap.size + 1 + 1, 2, none⟩ (.int .i64 (ct (olQ x.im) (L.filter (mineB x.nm))))).setCell ⟨w.heap.size + 1 + 1, 3, none⟩ (.int .i64 (ct faQ (L.filter (mineB x.nm))))).setCell ⟨w.heap.size + 1 + 1, 4, none⟩ (.int .i64 (ct enQ (L.filter (mineB x.nm))))) (w.heap.size + 1 + 1) #[.int .i64 (ct lvQ (L.filter (mineB x.nm))), .int .i64 (ct rdQ (L.filter (mineB x.nm))), .int .i64 (ct (olQ x.im) (L.filter (mineB x.nm))), .int .i64 (ct faQ (L.filter (mineB x.nm))), .int .i64 (ct enQ (L.filter (mineB x.nm)))] := (((((HI.out.res.set (k := 0) (.int .i64 (ct lvQ (L.filter (mineB x.nm)))) (by simp)).set (k := 1) (.int .i64 (ct rdQ (L.filter (mineB x.nm)))) (by simp)).set (k := 2) (.int .i64 (ct (olQ x.im) (L.filter (mineB x.nm)))) (by simp)).set (k := 3) (.int .i64 (ct faQ (L.filter (mineB x.nm)))) (by simp)).set (k := 4) (.int .i64 (ct enQ (L.filter (mineB x.nm)))) (by simp))
    generalize (((((W.setCell ⟨w.heap.size + 1 + 1, 0, none⟩ (.int .i64 (ct lvQ (L.filter (mineB x.nm))))).setCell ⟨w.heap.size + 1 + 1, 1, none⟩ (.int .i64 (ct rdQ (L.filter (mineB x.nm))))).setCell ⟨w.heap.size + 1 + 1, 2, none⟩ (.int .i64 (ct (olQ x.im) (L.filter (mineB x.nm))))).setCell ⟨w.heap.size + 1 + 1, 3, none⟩ (.int .i64 (ct faQ (L.filter (mineB x.nm))))).setCell ⟨w.heap.size + 1 + 1, 4, none⟩ (.int .i64 (ct enQ (L.filter (mineB x.nm))))) = W2 at *
    have hDd : w.heap.size + 6 ≤ Dd := by omega
    have hK2 : W2.heap[Dd]? = some (.deferred (some [])) := (hst.oth Dd (by omega)).trans hK
    have HB2 : Below w.heap.size w W2 := HI.out.below.trans (hst.bl _ (by omega))
    refine ⟨by simp, .inl ⟨_, _, rfl, run_takeDeferred hK2, ?_⟩⟩
    have r2 : ∀ i, (W2.putObj Dd (.deferred none)).cell? ⟨w.heap.size + 1 + 1, i, none⟩ = (#[.int .i64 (ct lvQ (L.filter (mineB x.nm))), .int .i64 (ct rdQ (L.filter (mineB x.nm))), .int .i64 (ct (olQ x.im) (L.filter (mineB x.nm))), .int .i64 (ct faQ (L.filter (mineB x.nm))), .int .i64 (ct enQ (L.filter (mineB x.nm)))] : Array Value)[i]? := fun i =>
      (World.cell?_of_block (a := ⟨w.heap.size + 1 + 1, i, none⟩) ((grownBy_putObj' W2 Dd _).block _ hbx.lt (fun e => by have := Option.some.inj e; (try simp only [] at this); omega))).trans (hbx.cell i)
    clear m0 r0 g0 hst
    refine ⟨.agg #[.int .i64 (ct lvQ (L.filter (mineB x.nm))), .int .i64 (ct rdQ (L.filter (mineB x.nm))), .int .i64 (ct (olQ x.im) (L.filter (mineB x.nm))), .int .i64 (ct faQ (L.filter (mineB x.nm))), .int .i64 (ct enQ (L.filter (mineB x.nm)))], by simp [results, Tryz.results134, go_sem, r2], ⟨ct lvQ (L.filter (mineB x.nm)), ct rdQ (L.filter (mineB x.nm)), ct (olQ x.im) (L.filter (mineB x.nm)), ct faQ (L.filter (mineB x.nm)), ct enQ (L.filter (mineB x.nm))⟩, rfl, HRES.out.symm, HB2.trans (belowK_b (w := w) (Nat.le_refl _) W2 Dd _ _ (by omega) hK2 rfl rfl)⟩
  case stop =>
    rintro Dd c pre W hD hSp hF
    exact hF.elim
end
end Go.Proofs.YtaogpeebencnoaaGreatDoor
namespace Go.Proofs.YtaogpeebencnoaaGreatDoor
open Go.RowKit Go.Deep Go.Shelf

attribute [local go_sem] Oper.semAt_some

/-- another one that is ready -/
def besQ (x y : Cp) : Bool := (y.nu != x.nu) && (!y.en) && (y.st == 3)
/-- the world while others are counted -/
structure BesW (w : World) (x : Cp) (pre : List Cp) (W : World) : Prop where
  one : Box W (w.heap.size + 1) #[.string x.se, .int .i64 x.nu, .int .i64 x.ve, .int .i64 x.im, .int .i64 x.st, .bool x.en, .string x.be]
  cnt : Box W (w.heap.size + 1 + 1) #[.int .i64 (ct (besQ x) pre)]
  below : Below w.heap.size w W
  big : w.heap.size + 5 ≤ W.heap.size
theorem BesW.grow {w : World} {x : Cp} {pre : List Cp} {W W' : World} {row : Option Nat} (h : BesW w x pre W) (hg : W.grownBy W' row) (hr : ∀ r, row = some r → w.heap.size + 5 ≤ r) : BesW w x pre W' :=
  ⟨h.one.ofBlk (hg.block _ h.one.lt (fun e => by have := hr _ e.symm; omega)), h.cnt.ofBlk (hg.block _ h.cnt.lt (fun e => by have := hr _ e.symm; omega)),
    h.below.trans ⟨hg.os, hg.tape, hg.output, hg.size, fun k hk => hg.block k (by have := h.below.size; omega) (fun e => by have := hr _ e.symm; omega)⟩, Nat.le_trans h.big hg.size⟩

section
variable (lo : Nat) (now : Int) (sv cv bv : Value) (L : List Cp) (x : Cp) (w : World)

set_option maxRecDepth 100000 in
set_option maxHeartbeats 8000000 in
theorem beside_any (hL : CpsAt lo w cv L) (n1 : L.length ≤ 1048576) (hr : risR aheadB L = true) (hnu : ∀ i (h : i < L.length), 1 ≤ L[i].nu) (h0 : ∃ a n k, sv = .slice a n k) (h2 : ∃ a n k, bv = .slice a n k) :
    Calls Tryz.prog 141 #[.agg #[.int .i64 now, sv, cv, bv], .agg #[.string x.se, .int .i64 x.nu, .int .i64 x.ve, .int .i64 x.im, .int .i64 x.st, .bool x.en, .string x.be]] w
      fun e w' => ∃ c : Int, e = .returned (.int .i64 c) ∧ Hid (c = ct (besQ x) (L.filter (mineB x.se))) ∧ Below w.heap.size w w' := by
  have HL := hide hL
  have HR := hide hr
  have HNU := hide hnu
  obtain ⟨a1, k1, rfl⟩ := hL.form
  obtain ⟨a0, n0, k0, rfl⟩ := h0
  obtain ⟨a2, n2, k2, rfl⟩ := h2
  clear hL hr hnu
  refine (callsIn_wide (n := 5)).1 ?_
  refine callsIn_of_wp_marks Tryz.func141 rfl trivial ?_ rfl
  simp only [Tryz.ntmps141, List.size_toArray, List.length_cons, List.length_nil, Nat.reduceAdd, Nat.reduceSub, Array.replicate_succ, Array.replicate_zero, List.push_toArray, List.append_toArray, List.nil_append, List.cons_append]
  gi_wp2_with fail
  refine ⟨trivial, (copiesOf_in now x.se _ Fence.wide _ trivial rfl a0 a1 a2 n0 L.length n2 k0 k1 k2).mono ?_⟩
  rintro e w1 ⟨rfl, hw1⟩
  obtain ⟨wl, hwl, HX1, HX2, HW, hsz⟩ : ∃ wl, wl = w1 ∧ Hid (Box wl (w.heap.size + 1 + 1 + 1) #[.int .i64 now, .slice a0 n0 k0, .slice a1 L.length k1, .slice a2 n2 k2]) ∧ Hid (Box wl (w.heap.size + 1 + 1 + 1 + 1) #[.string x.se]) ∧ Hid (BesW w x [] wl) ∧ wl.heap.size = w.heap.size + 5 := by
    subst hw1
    refine ⟨_, rfl, (Box.new _ _ _ _ (by simp)).on (one_al _ _), Box.new _ _ _ _ (by simp), ⟨?_, ?_, ?_, by simp⟩, by simp⟩
    · exact (((Box.new _ _ _ _ (by simp)).on (one_al _ _)).on (one_al _ _)).on (one_al _ _)
    · exact ((Box.new _ _ _ _ (by simp)).on (one_al _ _)).on (one_al _ _)
    · exact ((((one_al _ _).trans ((one_al _ _).mono (by simp))).trans ((one_al _ _).mono (by simp; omega))).trans ((one_al _ _).mono (by simp; omega))).trans ((one_al _ _).mono (by simp; omega))
  subst hwl
  clear hw1
  gi_wp2_with fail
  refine wpIn_rangeFunc_ownH rfl (by decide) (gf := 147) (lb := #[.pointer (some ⟨w.heap.size + 1 + 1 + 1, 0, none⟩), .pointer (some ⟨w.heap.size + 1 + 1 + 1 + 1, 0, none⟩)]) rfl trivial (enters_of Tryz.func147 (by kernel_rfl) rfl)
    (copies_stops lo now _ _ _ L x.se wl _ (by decide) (fun k => k = w.heap.size + 1 + 1) w _ _ HW.out.below HL.out n1 HR.out HNU.out (fun k hk he => by omega) (by omega) HX1.out HX2.out ⟨_, _, _, rfl⟩ ⟨_, _, _, rfl⟩)
    KeepsBut.trans KeepsBut.put (Below.refl _ _) (fun _ => rfl)
    (fun pre W => BesW w x pre W)
    (fun _ _ _ => False)
    (fun s A B row hs hg hr => hs.grow hg (fun r e => by have := (hr r e).1; omega))
    (fun _ _ _ _ _ hs _ _ => hs)
    HW.out
    (fun y a' W => ∃ β : Nat, w.heap.size + 5 ≤ β ∧ a' = { tmps := #[.agg #[.int .i64 now, .slice a0 n0 k0, .slice a1 L.length k1, .slice a2 n2 k2], .agg #[.string x.se, .int .i64 x.nu, .int .i64 x.ve, .int .i64 x.im, .int .i64 x.st, .bool x.en, .string x.be], .pointer (some ⟨w.heap.size, 0, none⟩), .pointer (some ⟨w.heap.size + 1, 0, none⟩), .int .i64 0, .pointer (some ⟨w.heap.size + 1 + 1, 0, none⟩), .pointer (some ⟨β, 0, none⟩), .agg #[.int .i64 now, .slice a0 n0 k0, .slice a1 L.length k1, .slice a2 n2 k2], .pointer (some ⟨w.heap.size + 1, 0, none⟩), .string x.se, .func (.func 147) #[] #[.pointer (some ⟨w.heap.size + 1 + 1 + 1, 0, none⟩), .pointer (some ⟨w.heap.size + 1 + 1 + 1 + 1, 0, none⟩)], .agg #[.string y.se, .int .i64 y.nu, .int .i64 y.ve, .int .i64 y.im, .int .i64 y.st, .bool y.en, .string y.be], undef, undef, undef, undef, undef, undef, undef, undef, undef, undef, undef, undef, undef, undef, undef, undef, undef, undef], defers := [] } ∧ Box W β #[.string y.se, .int .i64 y.nu, .int .i64 y.ve, .int .i64 y.im, .int .i64 y.st, .bool y.en, .string y.be])
    (fun y a' s A B row hs hg hr => by
      obtain ⟨β, hβ, e1, e2⟩ := hs
      exact ⟨β, hβ, e1, e2.ofBlk (hg.block _ e2.lt (fun e => by
        obtain ⟨-, o, ho, hc⟩ := hr _ e.symm
        obtain ⟨o', ho', hc'⟩ := cells_of_cell (e2.cell 0)
        rw [ho] at ho'
        cases ho'
        rw [hc] at hc'
        cases hc'))⟩) ?assign ?body ?done ?stop
  case assign =>
    intro l pre y W K hI hK
    have HI := hide hI
    have HK := hide hK
    have hz := hI.below.size
    have hz6 := hI.big
    clear hI hK
    gi_wp2
    refine HK.out _ _ ((KeepsOthers.alloc _ _).from _) (KeepsBut.grow (World.grownBy_alloc _ _ none)) (HI.out.grow (World.grownBy_alloc _ _ none) (fun r e => by cases e)) ⟨W.heap.size, hz6, rfl, Box.new _ _ _ _ rfl⟩
  case body =>
    rintro l pre y a' W hll hrec hI ⟨β, hβ, rfl, hY⟩ hlen
    have HI := hide hI
    have y1 := hY.cell 1
    have y4 := hY.cell 4
    have y5 := hY.cell 5
    have x1 := hI.one.cell 1
    simp at y1 y4 y5 x1
    obtain ⟨z, ez⟩ : ∃ z, z = ct (besQ x) pre := ⟨_, rfl⟩
    have HCB : Hid (Box W (w.heap.size + 1 + 1) #[.int .i64 z]) := by
      unfold Hid
      rw [ez]
      exact hI.cnt
    have b0 : 0 ≤ z ∧ z ≤ 1048576 := by have := ct_bd (besQ x) pre; omega
    have v0 : IntKind.i64.wrap (z + 1) = z + 1 := by rw [IntWalk.i64_left]; unfold wrap64; omega
    have HCN : Hid (ct (besQ x) (pre ++ [y]) = z + if besQ x y then 1 else 0) := by
      unfold Hid
      rw [ct_snoc, ez]
    have m0 := HCB.out.cell 0
    have f0 := HCB.out.free
    simp at m0
    clear ez b0
    have HS : Hid (∀ W', Box W' (w.heap.size + 1 + 1) #[.int .i64 (ct (besQ x) (pre ++ [y]))] → Below w.heap.size w W' → w.heap.size + 5 ≤ W'.heap.size → (∀ b, b ≠ w.heap.size + 1 + 1 → W'.heap[b]? = W.heap[b]?) → BesW w x (pre ++ [y]) W') := fun W' h1 h2 hbg h3 =>
      ⟨HI.out.one.ofBlk (h3 _ (by omega)), h1, h2, hbg⟩
    clear hI hY hrec hlen
    cases q1 : (y.nu != x.nu) with
    | false =>
      have HE : Hid (ct (besQ x) (pre ++ [y]) = z) := by
        unfold Hid
        rw [HCN.out]
        simp [besQ, q1]
      gi_wp2
      have hst : Sets (w.heap.size + 1 + 1) W W := Sets.refl _ _
      exact ⟨hst.ko.from _, hst.kb _ _ rfl, HS.out W (by rw [HE.out]; exact HCB.out) HI.out.below HI.out.big (fun _ _ => rfl)⟩
    | true =>
      cases q5 : y.en with
      | true =>
        have HE : Hid (ct (besQ x) (pre ++ [y]) = z) := by
          unfold Hid
          rw [HCN.out]
          simp [besQ, q1, q5]
        gi_wp2
        have hst : Sets (w.heap.size + 1 + 1) W W := Sets.refl _ _
        exact ⟨hst.ko.from _, hst.kb _ _ rfl, HS.out W (by rw [HE.out]; exact HCB.out) HI.out.below HI.out.big (fun _ _ => rfl)⟩
      | false =>
        cases q4 : (y.st == 3) with
        | false =>
          have HE : Hid (ct (besQ x) (pre ++ [y]) = z) := by
            unfold Hid
            rw [HCN.out]
            simp [besQ, q1, q5, q4]
          gi_wp2
          have hst : Sets (w.heap.size + 1 + 1) W W := Sets.refl _ _
          exact ⟨hst.ko.from _, hst.kb _ _ rfl, HS.out W (by rw [HE.out]; exact HCB.out) HI.out.below HI.out.big (fun _ _ => rfl)⟩
        | true =>
          have HE : Hid (ct (besQ x) (pre ++ [y]) = z + 1) := by
            unfold Hid
            rw [HCN.out]
            simp [besQ, q1, q5, q4]
          gi_wp2
          have hst : Sets (w.heap.size + 1 + 1) W (W.setCell ⟨w.heap.size + 1 + 1, 0, none⟩ (.int .i64 (z + 1))) := (Sets.refl _ _).set _ _
          have hbx : Box (W.setCell ⟨w.heap.size + 1 + 1, 0, none⟩ (.int .i64 (z + 1))) (w.heap.size + 1 + 1) #[.int .i64 (z + 1)] := (HCB.out.set (k := 0) (.int .i64 (z + 1)) (by simp))
          generalize (W.setCell ⟨w.heap.size + 1 + 1, 0, none⟩ (.int .i64 (z + 1))) = W' at *
          exact ⟨hst.ko.from _, hst.kb _ _ rfl, HS.out W' (by rw [HE.out]; exact hbx) (HI.out.below.trans (hst.bl _ (by omega))) (by have := HI.out.big; have := hst.sz; omega) hst.oth⟩
  case done =>
    rintro Dd ys W hD rfl hI hK
    have HI := hide hI
    have m0 := hI.cnt.cell
    clear hI
    gi_wp2
    have hK2 : W.heap[Dd]? = some (.deferred (some [])) := hK
    have hDd : w.heap.size + 5 ≤ Dd := by omega
    refine ⟨by simp, .inl ⟨_, _, rfl, run_takeDeferred hK2, ?_⟩⟩
    refine ⟨.int .i64 (ct (besQ x) (L.filter (mineB x.se))), by simp [results, Tryz.results141, go_sem], _, rfl, rfl, HI.out.below.trans (belowK_b (w := w) (Nat.le_refl _) W Dd _ _ (by omega) hK2 rfl rfl)⟩
  case stop =>
    rintro Dd c pre W hD hSp hF
    exact hF.elim
end
end Go.Proofs.YtaogpeebencnoaaGreatDoor
namespace Go.Proofs.YtaogpeebencnoaaGreatDoor
open Go.RowKit Go.Deep Go.Lib

def svZ : List Value := [.string ⟨#[]⟩, .int .i64 0, .bool false, .int .i64 0, .int .i64 0, .int .i64 0, .int .i64 0, .int .i64 0, .int .i64 0, .int .i64 0, .int .i64 0, .int .i64 0, .int .i64 0]
theorem zeroSv (w : World) : (zeroValue 88).run Tryz.prog w = .ok (.agg #[.string ⟨#[]⟩, .int .i64 0, .bool false, .int .i64 0, .int .i64 0, .int .i64 0, .int .i64 0, .int .i64 0, .int .i64 0, .int .i64 0, .int .i64 0, .int .i64 0, .int .i64 0]) w := by
  obtain ⟨i0, hi, hz0, hz1, hz2⟩ := info_parts Tryz.info88
  simp [zeroValue, typeInfo, hi, hz0]
theorem clear_one (w : World) (ty : TypeId) (b o n c : Nat) (hn : n = 1) (hc : ∀ j, j < 13 → (w.cell? ⟨b, o + j, none⟩).isSome = true) (hf : ∀ j, j < 13 → w.frozen? ⟨b, o + j, none⟩ = false) :
    (Builtin.clear_ #[32] ty #[.slice (some ⟨b, o, none⟩) n c]).run Tryz.prog w = .ok (.tuple #[]) (w.setCells b o svZ) := by
  subst hn
  have hzc : (Builtin.zeroCells (Value.cells (.agg #[.string ⟨#[]⟩, .int .i64 0, .bool false, .int .i64 0, .int .i64 0, .int .i64 0, .int .i64 0, .int .i64 0, .int .i64 0, .int .i64 0, .int .i64 0, .int .i64 0, .int .i64 0])) 1).toList = svZ := by first | kernel_rfl | (simp [Builtin.zeroCells, svZ, Value.cells]; rfl)
  have hst := run_storeCells_cells (P := Tryz.prog) b o svZ 0 w (by simpa [svZ] using hc) (by simpa [svZ] using hf) (by intro v hv'; simp [svZ] at hv'; rcases hv' with rfl | rfl | rfl | rfl <;> rfl)
  simp only [Nat.add_zero] at hst
  simp [Builtin.clear_, run_underlying Tryz.underlying32, hzc, hst]
/-- services of one's own, by their cells -/
theorem SvsOwn.of {p0 p1 b off cap : Nat} {W : World} {L : List Sv} (hc : ∀ q u, (flatV svL L)[q]? = some u → W.cell? ⟨b, off + q, none⟩ = some u) (hz : ∀ i (hi : i < L.length), SvSize L[i]) (hf : ∀ i, W.frozen? ⟨b, i, none⟩ = false) (hlt : b < W.heap.size) (h0 : p0 ≤ b) (h1 : b < p1) (hm : L.length ≤ maxLen) (hcap : L.length ≤ cap) :
    SvsOwn p0 p1 W (.slice (some ⟨b, off, none⟩) L.length cap) L := by
  by_cases hL : L = []
  · subst hL; exact Or.inl ⟨_, _, rfl, rfl⟩
  · have h0' : 0 < L.length := List.length_pos_iff.2 hL
    refine Or.inr ⟨b, off, cap, fun _ => b + 1, fun i => if h : i < L.length then L[i] else L[0], rfl, hL, hm, hcap, fun i hi => by simp [hi], hlt, h0, Nat.lt_succ_self _, h1, fun _ _ => Nat.le_refl _, h1, hf, fun i hi => ?_⟩
    simp only [hi, dif_pos]
    have e : ∀ t v, (svL L[i])[t]? = some v → W.cell? ⟨b, off + i * 13 + t, none⟩ = some v := fun t v hv => by
      have ht : t < 13 := by have := (List.getElem?_eq_some_iff.1 hv).1; rwa [svL_len] at this
      have h2 := flatV_get svL_len L i t hi ht
      rw [hv] at h2
      have := hc _ _ h2
      rwa [← Nat.add_assoc] at this
    exact ⟨hz i hi, ⟨e 0 _ rfl, e 1 _ rfl, e 2 _ rfl, e 3 _ rfl, e 4 _ rfl, e 5 _ rfl, e 6 _ rfl, e 7 _ rfl, e 8 _ rfl, e 9 _ rfl, e 10 _ rfl, e 11 _ rfl, e 12 _ rfl⟩⟩
theorem flatV_erase {X : Type} {f : X → List Value} {k : Nat} (hk : ∀ x, (f x).length = k) (L : List X) (i : Nat) (h : i < L.length) : flatV f (L.eraseIdx i) = (flatV f L).take (i * k) ++ (flatV f L).drop ((i + 1) * k) := by
  rw [List.eraseIdx_eq_take_drop_succ, flatV_app, (flatV_cut hk L i (by omega)).1, (flatV_cut hk L (i + 1) (by omega)).2]
theorem touch_setCells (p0 p1 b : Nat) (h : p0 ≤ b ∧ b < p1) : ∀ (vs : List Value) (o : Nat) (w : World), Touch p0 p1 w (w.setCells b o vs)
  | [], _, w => Touch.refl _ _ _
  | v :: r, o, w => by
    rw [World.setCells]
    exact (Touch.setCell p0 p1 w ⟨b, o, none⟩ v h).trans (touch_setCells p0 p1 b h r (o + 1) _)
theorem size_setCellsB (b : Nat) : ∀ (vs : List Value) (o : Nat) (w : World), (w.setCells b o vs).heap.size = w.heap.size
  | [], _, _ => rfl
  | v :: r, o, w => by rw [World.setCells, size_setCellsB b r]; simp [World.setCell]
theorem SvsOwn.facts {p0 p1 b off cap : Nat} {w : World} {Ps : List Sv} (h : SvsOwn p0 p1 w (.slice (some ⟨b, off, none⟩) Ps.length cap) Ps) (hp : 0 < Ps.length) : b < w.heap.size ∧ p0 ≤ b ∧ b < p1 ∧ (∀ i, w.frozen? ⟨b, i, none⟩ = false) ∧ Ps.length ≤ maxLen ∧ Ps.length ≤ cap ∧ (∀ i (hi : i < Ps.length), SvSize Ps[i]) ∧ ∀ q u, (flatV svL Ps)[q]? = some u → w.cell? ⟨b, off + q, none⟩ = some u := by
  have hnews := h.at.news (Below.refl w.heap.size w) ⟨b, off, none⟩ rfl
  rcases h with ⟨_, _, _, h⟩ | ⟨b', off', cap', c, X, h1, h2, h3, h4, h5, h6⟩
  · rw [h] at hp; simp at hp
  · injection h1 with e1 _ e3
    injection e1 with e1
    injection e1 with e1 e2
    subst e1 e2 e3
    exact ⟨h6.lt, h6.low, h6.bh, h6.frz, h3, h4, fun i hi => by have := (h6.row i hi).1; rw [h5 i hi] at this; exact this, fun q u hu => by have := hnews q u hu; rwa [Go.WideShapes.add_plain] at this⟩

set_option maxRecDepth 20000 in
set_option maxHeartbeats 8000000 in
theorem deleteSvs_any (p0 p1 b off cap i : Nat) (Ps : List Sv) (w : World) (h : SvsOwn p0 p1 w (.slice (some ⟨b, off, none⟩) Ps.length cap) Ps) (hi : i < Ps.length) (hn : Ps.length ≤ 1048576) :
    Calls Tryz.prog 135 #[.slice (some ⟨b, off, none⟩) Ps.length cap, .int .i64 i, .int .i64 (i + 1)] w
      fun e w' => e = .returned (.slice (some ⟨b, off, none⟩) (i + (Ps.length - (i + 1))) cap) ∧ Touch p0 p1 w w' ∧ SvsOwn p0 p1 w' (.slice (some ⟨b, off, none⟩) (Ps.eraseIdx i).length cap) (Ps.eraseIdx i) := by
  obtain ⟨i0, hi0, hz0, hz1, hz2⟩ := info_parts Tryz.info88
  obtain ⟨f1, f2, f3, f4, f5, f6, f7, f8⟩ := h.facts (by omega)
  obtain ⟨news, hnews⟩ : ∃ news, news = (flatV svL Ps).drop ((i + 1) * 13) := ⟨_, rfl⟩
  have hlen : news.length = (Ps.length - (i + 1)) * 13 := by rw [hnews, List.length_drop, flatV_len svL_len]; omega
  have hget : ∀ t, news[t]? = (flatV svL Ps)[(i + 1) * 13 + t]? := fun t => by rw [hnews, List.getElem?_drop]
  obtain ⟨A, hA, hsrc⟩ : ∃ A : Addr, (if cap = i + 1 then some (⟨b, off, none⟩ : Addr) else some ⟨b, off + (i + 1) * 13, none⟩) = some A ∧ Hid (∀ t u, news[t]? = some u → w.drew.cell? (A.add t) = some u) := by
    by_cases hc : cap = i + 1
    · refine ⟨⟨b, off, none⟩, by simp [hc], fun t u hu => ?_⟩
      have h0 : news.length = 0 := by rw [hlen]; omega
      rw [List.length_eq_zero_iff.1 h0] at hu
      simp at hu
    · refine ⟨⟨b, off + (i + 1) * 13, none⟩, by simp [hc], fun t u hu => ?_⟩
      rw [hget] at hu
      rw [Go.WideShapes.add_plain]
      have := f8 _ _ hu
      rwa [← Nat.add_assoc] at this
  have hsome : ∀ q, q < Ps.length * 13 → (w.cell? ⟨b, off + q, none⟩).isSome = true := fun q hq => by
    rw [f8 q _ (List.getElem?_eq_getElem (by rw [flatV_len svL_len]; exact hq))]; rfl
  have S1 := hide hlen
  have S2 : Hid (∀ u ∈ news, u.oneCell' = true) := fun u hu => svL_ones Ps u (List.mem_of_mem_drop (by rw [← hnews]; exact hu))
  have S3 : Hid (∀ t, t < news.length → (w.drew.cell? ⟨b, off + i * 13 + t, none⟩).isSome = true ∧ w.drew.frozen? ⟨b, off + i * 13 + t, none⟩ = false) := fun t ht => by
    rw [hlen] at ht
    refine ⟨?_, f4 _⟩
    rw [Nat.add_assoc]
    exact hsome _ (by omega)
  obtain ⟨W1, hW1⟩ : ∃ W1, W1 = w.drew.setCells b (off + i * 13) news := ⟨_, rfl⟩
  have hcl : ∀ ty, (Builtin.clear_ #[32] ty #[.slice (some ⟨b, off + (i + (Ps.length - (i + 1))) * 13, none⟩) (Ps.length - (i + (Ps.length - (i + 1)))) (cap - (i + (Ps.length - (i + 1))))]).run Tryz.prog W1 = .ok (.tuple #[]) (W1.setCells b (off + (i + (Ps.length - (i + 1))) * 13) svZ) := fun ty =>
    clear_one W1 ty b _ _ _ (by omega) (fun j hj => by
      rw [hW1, World.cell?_setCells_out b _ _ _ _ (fun _ _ => Or.inr (by simp only []; rw [hlen]; omega)), Nat.add_assoc]
      exact hsome _ (by omega)) (fun j hj => by rw [hW1, World.frozen?_setCells]; exact f4 _)
  obtain ⟨W2, hW2⟩ : ∃ W2, W2 = W1.setCells b (off + (i + (Ps.length - (i + 1))) * 13) svZ := ⟨_, rfl⟩
  have HT : Hid (Touch p0 p1 w W2) := by
    rw [hW2, hW1]
    exact ((Touch.below ((Below.refl _ _).drew)).trans (touch_setCells p0 p1 b ⟨f2, f3⟩ _ _ _)).trans (touch_setCells p0 p1 b ⟨f2, f3⟩ _ _ _)
  have hle : (Ps.eraseIdx i).length = Ps.length - 1 := List.length_eraseIdx_of_lt hi
  have HO : Hid (SvsOwn p0 p1 W2 (.slice (some ⟨b, off, none⟩) (Ps.eraseIdx i).length cap) (Ps.eraseIdx i)) := by
    refine SvsOwn.of (fun q u hu => ?_) (fun k hk => ?_) (fun k => ?_) ?_ f2 f3 (by unfold maxLen; omega) (by omega)
    · have hq : q < (Ps.length - 1) * 13 := by
        have := (List.getElem?_eq_some_iff.1 hu).1
        rw [flatV_len svL_len, hle] at this
        exact this
      rw [flatV_erase svL_len Ps i hi] at hu
      have hpl : (flatV svL Ps).length = Ps.length * 13 := flatV_len svL_len _
      have htl : ((flatV svL Ps).take (i * 13)).length = i * 13 := by rw [List.length_take]; omega
      rw [hW2, World.cell?_setCells_out b _ _ _ _ (fun _ _ => Or.inl (by simp only []; omega)), hW1]
      by_cases hqi : q < i * 13
      · rw [World.cell?_setCells_out b _ _ _ _ (fun _ _ => Or.inl (by simp only []; omega))]
        rw [List.getElem?_append_left (by omega), List.getElem?_take_of_lt hqi] at hu
        exact f8 q u hu
      · rw [List.getElem?_append_right (by omega), htl] at hu
        have hj : q - i * 13 < news.length := by rw [hlen]; omega
        have hin := World.cell?_setCells_in b news (off + i * 13) w.drew (fun j hj => (S3.out j hj).1) (q - i * 13) hj
        rw [show off + i * 13 + (q - i * 13) = off + q by omega] at hin
        rw [hin]
        rw [← hnews, List.getElem?_eq_getElem hj] at hu
        exact hu
    · have hm := List.getElem_mem hk
      obtain ⟨k', hk', e⟩ := List.getElem_of_mem (List.mem_of_mem_eraseIdx hm)
      rw [← e]
      exact f7 k' hk'
    · rw [hW2, hW1, World.frozen?_setCells, World.frozen?_setCells]; exact f4 _
    · rw [hW2, hW1, size_setCellsB, size_setCellsB]; exact f1
  have HW1 := hide hW1
  have HW2 := hide hW2
  have hic : i ≤ cap := by omega
  have hjc : i + 1 ≤ cap := by omega
  have hil : i ≤ Ps.length := by omega
  have hij : (0 : Int) ≤ (i : Int) + 1 ∧ (i : Int) + 1 ≤ (Ps.length : Int) := by omega
  clear h f4 f7 f8 hget hsome hnews hlen hW1 hW2 hle
  go_enter Tryz.func135, Tryz.ntmps135
  go_wp2_with fail
  go_region_law (refine step_append_room rfl (.tmp 22) (.tmp 25) 32 rfl 88 i0 13 Tryz.underlying32 hi0 hz1 b off i cap (by simp [Act.eval, Act.put]) A (Ps.length - (i + 1)) (cap - (i + 1)) news (by simp [Act.eval, Act.put]) S1.out hsrc.out S2.out (by omega) S3.out ?_; rw [← HW1.out])
  go_wp2
  rw [← HW2.out]
  go_ret
  exact ⟨rfl, HT.out, HO.out⟩
end Go.Proofs.YtaogpeebencnoaaGreatDoor
