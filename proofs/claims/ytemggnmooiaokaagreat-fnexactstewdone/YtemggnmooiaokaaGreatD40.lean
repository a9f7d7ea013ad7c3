import Derived.Test.YtemggnmooiaokaaGreatD39
import Derived.RangeFuncNested
import Derived.RangeFuncBound
import Derived.RangeFuncCalls
import Derived.RangeFuncLeaves
import Derived.Shelf.Abstract
import Derived.Shelf.RegionOpen
import Derived.WalkKit
import Derived.OwnWalkIn
import Derived.TacticsInMore
import Derived.LoopNIn
import Derived.LoopIn
namespace Go.Proofs.YtemggnmooiaokaaGreat
open Go.RowKit Go.Deep Go.Shelf

attribute [local go_sem] Oper.semAt_some

theorem grown_of_below {w w' : World} (h : Below w.heap.size w w') : w.grownBy w' none :=
  ⟨h.os, h.tape, h.output, h.size, fun k hk _ => h.block k hk⟩
theorem abides_below {β : Type} {B : Nat} {J : β → World → Prop} (h : AbidesFrom B J) {s : β} {W W' : World} (hs : J s W) (hb : Below W.heap.size W W') : J s W' :=
  h s W W' none hs (grown_of_below hb) (fun r e => by cases e)

/-- WHAT A LOOP'S BODY KEEPS: all cells, and all that lay below B, but for the blocks of S. -/
structure KeepsBut (S : Nat → Prop) (B : Nat) (W W' : World) : Prop where
  os : W'.os = W.os
  tape : W'.tape = W.tape
  output : W'.output = W.output
  size : W.heap.size ≤ W'.heap.size
  same : ∀ k o, W.heap[k]? = some o → ¬ S k → (o.isCells = true ∨ k < B) → W'.heap[k]? = some o
theorem KeepsBut.refl (S : Nat → Prop) (B : Nat) (W : World) : KeepsBut S B W W := ⟨rfl, rfl, rfl, Nat.le_refl _, fun _ _ h _ _ => h⟩
theorem KeepsBut.trans {S : Nat → Prop} {B : Nat} {W W' W'' : World} (h : KeepsBut S B W W') (k : KeepsBut S B W' W'') : KeepsBut S B W W'' :=
  ⟨k.os.trans h.os, k.tape.trans h.tape, k.output.trans h.output, Nat.le_trans h.size k.size, fun i o hi hs ho => k.same i o (h.same i o hi hs ho) hs ho⟩
theorem KeepsBut.put {S : Nat → Prop} {w : World} (W : World) (l : Nat) (o o' : Obj) (hl : w.heap.size ≤ l) (h : W.heap[l]? = some o) (hc : o.isCells = false) (_ : o.isWalk = false) : KeepsBut S w.heap.size W (W.putObj l o') := by
  have hg := grownBy_putObj' W l o'
  refine ⟨hg.os, hg.tape, hg.output, hg.size, fun k x hk _ hx => ?_⟩
  by_cases e : k = l
  · subst e
    rw [h] at hk
    cases hk
    rcases hx with hx | hx
    · rw [hc] at hx; cases hx
    · omega
  · rw [hg.block k (Array.getElem?_eq_some_iff.1 hk).1 (fun e' => e (Option.some.inj e'))]
    exact hk
theorem KeepsBut.below {S : Nat → Prop} {B m : Nat} {W W' : World} (h : KeepsBut S B W W') (hm : m ≤ W.heap.size) (hS : ∀ k, k < m → ¬ S k) (hB : m ≤ B) : Below m W W' := by
  refine ⟨h.os, h.tape, h.output, h.size, fun k hk => ?_⟩
  have hlt : k < W.heap.size := Nat.lt_of_lt_of_le hk hm
  rw [Array.getElem?_eq_getElem hlt]
  exact h.same k _ (Array.getElem?_eq_getElem hlt) (hS k hk) (Or.inr (Nat.lt_of_lt_of_le hk hB))
theorem KeepsBut.cell {S : Nat → Prop} {B : Nat} {W W' : World} {p : Addr} {v : Value} (h : KeepsBut S B W W') (hc : W.cell? p = some v) (hS : ¬ S p.block) : W'.cell? p = some v := by
  obtain ⟨o, ho, hc'⟩ := cells_of_cell hc
  exact (World.cell?_of_block ((h.same _ o ho hS (Or.inl hc')).trans ho.symm)).trans hc
theorem KeepsBut.set {S : Nat → Prop} {B : Nat} (W : World) (p : Addr) (u : Value) (hS : S p.block) : KeepsBut S B W (W.setCell p u) := by
  refine ⟨rfl, rfl, rfl, by simp [World.setCell], fun k o hk hs _ => ?_⟩
  rw [Below.heap_setCell W p u k (fun e => hs (e ▸ hS))]
  exact hk

theorem KeepsBut.grow {S : Nat → Prop} {B : Nat} {W W' : World} (h : W.grownBy W' none) : KeepsBut S B W W' :=
  ⟨h.os, h.tape, h.output, h.size, fun k o hk _ _ => (h.block k (Array.getElem?_eq_some_iff.1 hk).1 (by simp)).trans hk⟩
abbrev encK (x : Cp) : Array Value := #[.agg #[.string x.se, .int .i64 x.nu, .int .i64 x.ve, .int .i64 x.im, .int .i64 x.st, .bool x.en, .string x.be]]
theorem take_next {L : List Cp} {p k : Nat} (h : p + k < L.length) : (L.drop p).take (k + 1) = (L.drop p).take k ++ [L[p + k]] := by
  rw [List.take_succ_eq_append_getElem (by rw [List.length_drop]; omega), List.getElem_drop]
theorem take_len {L : List Cp} {p k : Nat} (h : p + k ≤ L.length) : ((L.drop p).take k).length = k := by
  rw [List.length_take, List.length_drop]; omega

section
variable (lo : Nat) (now : Int) (sv cv bv : Value) (L : List Cp) (s : ByteArray) (w : World)

set_option maxHeartbeats 1000000 in
theorem copiesOf_in (F : Fence) (n : Nat) (hf : F.fn 113) (hro : F.round = none) (a0 a1 a2 : Option Addr) (n0 n1 n2 k0 k1 k2 : Nat) :
    CallsIn F n Tryz.prog 113 #[.agg #[.int .i64 now, .slice a0 n0 k0, .slice a1 n1 k1, .slice a2 n2 k2], .string s] w
      fun e w' => e = .returned (.func (.func 142) #[] #[.pointer (some ⟨w.heap.size, 0, none⟩), .pointer (some ⟨w.heap.size + 1, 0, none⟩)]) ∧
        w' = (w.alloc (.cells #[.int .i64 now, .slice a0 n0 k0, .slice a1 n1 k1, .slice a2 n2 k2] 33)).alloc (.cells #[.string s] 9) := by
  refine callsIn_of_wp Tryz.func113 rfl hf ?_ hro
  simp only [Tryz.ntmps113, List.size_toArray, List.length_cons, List.length_nil, Nat.reduceAdd, Nat.reduceSub, Array.replicate_succ, Array.replicate_zero, List.push_toArray, List.append_toArray, List.nil_append, List.cons_append]
  gi_wp2
  go_ret
  exact ⟨rfl, rfl⟩

set_option maxRecDepth 100000 in
set_option maxHeartbeats 8000000 in
theorem copies_stops (n : Nat) (hn : 1 ≤ n) (S : Nat → Prop) (w0 : World) (B1 B2 : Nat) (h0 : Below w0.heap.size w0 w) (hL : CpsAt lo w0 cv L) (n1 : L.length ≤ 1048576) (hr : risR aheadB L = true) (hnu : ∀ i (h : i < L.length), 1 ≤ L[i].nu)
    (s0 : ∀ k, k < w0.heap.size → ¬ S k) (s2 : ¬ S B2)
    (hX1 : Box w B1 #[.int .i64 now, sv, cv, bv]) (hX2 : Box w B2 #[.string s]) (g0 : ∃ a n k, sv = .slice a n k) (g2 : ∃ a n k, bv = .slice a n k) :
    SeqStopsK Fence.wide n Tryz.prog 142 #[.pointer (some ⟨B1, 0, none⟩), .pointer (some ⟨B2, 0, none⟩)] encK (KeepsBut S w.heap.size) (fun xs => xs = L.filter (mineB s)) (fun _ => True) L.length w := by
  intro l J Jx W hW hJ hJx hY hJ0
  have HL := hide hL
  obtain ⟨ca, ccap, rfl⟩ := hL.form
  obtain ⟨a0, n0, k0, rfl⟩ := g0
  obtain ⟨a2, n2, k2, rfl⟩ := g2
  have H0 := hide (h0.trans (hW.mono h0.size))
  have HX1 := hide (hX1.below hW hX1.lt)
  have HX2 := hide (hX2.below hW hX2.lt)
  have hw : w.heap.size ≤ W.heap.size := hW.size
  have hw0 : w0.heap.size ≤ w.heap.size := h0.size
  have HJ := hide hJ
  have HY := hide hY
  have HR := hide hr
  have HNU := hide hnu
  have S0 := hide s0
  have S2 := hide s2
  have HJ0 := hide hJ0
  clear hL h0 hW hX1 hX2 hJ hJx hY hJ0 hr hnu s0 s2
  refine callsIn_of_wp Tryz.func142 rfl trivial ?_ rfl
  simp only [Tryz.ntmps142, List.size_toArray, List.length_cons, List.length_nil, Nat.reduceAdd, Nat.reduceSub, Array.replicate_succ, Array.replicate_zero, List.push_toArray, List.append_toArray, List.nil_append, List.cons_append]
  have o0 := HX1.out.cell 0
  have o1 := HX1.out.cell 1
  have o2 := HX1.out.cell 2
  have o3 := HX1.out.cell 3
  have q0 := HX2.out.cell 0
  simp at o0 o1 o2 o3 q0
  gi_wp2_with fail
  clear o0 o1 o3
  refine ⟨trivial, (callsIn_wide.2 (copyPlace_any lo now _ _ _ L s 0 W (HL.out.below H0.out) n1 HR.out ⟨_, _, _, rfl⟩ ⟨_, _, _, rfl⟩)).mono ?_⟩
  rintro e w1 ⟨⟨p, hsp, rfl⟩, hb1⟩
  have HSP := hide hsp
  have hp := hsp.le
  have HJ1 := hide (abides_below HJ.out HJ0.out hb1)
  have H1 := hide (bt H0.out hb1)
  have hw1 : w.heap.size ≤ w1.heap.size := Nat.le_trans hw hb1.size
  have o2 := (HX1.out.on hb1).cell 2
  have q0 := (HX2.out.on hb1).cell 0
  have qlt := (HX2.out.on hb1).lt
  simp at o2 q0
  clear hsp hb1 HX1 HX2 H0 HJ0
  by_cases hpl : p < L.length
  · have hcp : ¬ ccap = p := by
      rcases HL.out with ⟨_, _, _, h⟩ | ⟨_, _, cap, h, _, _, _, _, hc, _⟩
      · rw [h] at hpl; simp at hpl
      · injection h with _ _ h
        omega
    obtain ⟨b, off, rfl, hbw, -, hc⟩ := HL.out.full' (by omega)
    have HC := hide hc
    clear hc
    gi_wp2
    clear o2 hcp
    gi_loopw [19] (fun i wr => ∃ k : Nat, i = .int .i64 k ∧ p + k ≤ L.length ∧ J ((L.drop p).take k) wr ∧ Below w0.heap.size w0 wr ∧ wr.cell? ⟨B2, 0, none⟩ = some (.string s) ∧ B2 < wr.heap.size ∧ w.heap.size ≤ wr.heap.size ∧ (∀ i (h : i < L.length), p ≤ i → i < p + k → mineB s L[i] = true))
      (fun i _ => L.length - p - (intOf i).toNat)
    case atStart => exact ⟨0, rfl, by omega, HJ1.out, H1.out, q0, qlt, hw1, fun i _ h1 h2 => by omega⟩
    case round =>
      clear q0 qlt hw1
      obtain ⟨k, rfl, hk, hJk, hBk, q0, qlt, qw, hmi⟩ := hrel
      have HJK := hide hJk
      have HBK := hide hBk
      have HMI := hide hmi
      clear hJk hBk hmi HJ1 H1
      by_cases hlt : k < L.length - p
      · have hpk : p + k < L.length := by omega
        have hcc := (HC.out (p + k) hpk).2.below HBK.out hbw
        have ea : off + (p + k) * 7 = off + p * 7 + k * 7 := by omega
        rw [ea] at hcc
        obtain ⟨c0, c1, c2, c3, c4, c5, c6⟩ := hcc
        clear ea
        have HTN := hide (take_next hpk)
        obtain ⟨Wb, hWb, q0', HA, HAB, hzb⟩ : ∃ Wb, Wb = wr.alloc (.cells #[.string L[p + k].se, .int .i64 L[p + k].nu, .int .i64 L[p + k].ve, .int .i64 L[p + k].im, .int .i64 L[p + k].st, .bool L[p + k].en, .string L[p + k].be] 87) ∧ Wb.cell? ⟨B2, 0, none⟩ = some (.string s) ∧
            Hid (J ((L.drop p).take k) Wb) ∧ Hid (Below w0.heap.size w0 Wb) ∧ Wb.heap.size = wr.heap.size + 1 :=
          ⟨_, rfl, (cell_alloc_lt _ _ _ _ qlt).trans q0, abides_below HJ.out HJK.out (one_al _ _), HBK.out.trans ((one_al _ _).mono HBK.out.size), by simp⟩
        have q0b : ∀ o, (wr.alloc o).cell? ⟨B2, 0, none⟩ = some (.string s) := fun o => (cell_alloc_lt _ _ _ _ qlt).trans q0
        cases hm : (L[p + k].se.toList == s.toList) with
        | false =>
          have hm' : (L[p + k].se.toList != s.toList) = true := by simp only [bne, hm]; rfl
          have HE : Hid (L.filter (mineB s) = (L.drop p).take k) := run_all HSP.out HNU.out hk HMI.out (fun i hi hpi => by
            by_cases e : i = p + k
            · subst e; exact hm
            · exact mine_end HR.out HSP.out hpk (by omega) hm hi (by omega))
          gi_wp2
          all_goals (refine ⟨fun _ h => (by cases h), ?_⟩; gi_wp2)
          rw [← hWb]
          refine bodyPost_ret (results_none rfl _ _ _) rfl ?_
          exact ⟨⟨_, rfl⟩, .inl ⟨_, HE.out.symm, HA.out⟩⟩
        | true =>
          have hm' : (L[p + k].se.toList != s.toList) = false := by simp only [bne, hm]; rfl
          have HM := hide hm
          have hpl2 : ((L.drop p).take k).length < L.length := by rw [take_len hk]; omega
          have HAw : Hid (J ((L.drop p).take k) (wr.alloc (.cells #[.string L[p + k].se, .int .i64 L[p + k].nu, .int .i64 L[p + k].ve, .int .i64 L[p + k].im, .int .i64 L[p + k].st, .bool L[p + k].en, .string L[p + k].be] 87))) := by unfold Hid; rw [← hWb]; exact HA.out
          obtain ⟨fn, tmps, assign, body, hy, hR⟩ := HY.out _ L[p + k] _ HAw.out hpl2
          dsimp only [encK] at hy
          have HRn := hide hR
          clear hR hpl2
          gi_wp2
          refine HRn.out.mono ?_
          rw [← hWb]
          rintro e W3 (⟨rfl, hJ3, hk3⟩ | ⟨rfl, hJx3⟩)
          · have HJ3 := hide hJ3
            have r3 := hk3.cell q0' S2.out
            have rB : Hid (Below w0.heap.size w0 W3) := HAB.out.trans (hk3.below HAB.out.size S0.out hw0)
            have rz := hk3.size
            clear hk3 hJ3 hy
            gi_wp2
            go_roundw
            case rel => exact ⟨k + 1, by go_num, by omega, by rw [HTN.out]; exact HJ3.out, rB.out, r3, by omega, by omega, fun i hi h1 h2 => by
                          by_cases e : i = p + k
                          · subst e; exact HM.out
                          · exact HMI.out i hi h1 (by omega)⟩
            case measure => simp [intOf]; omega
          · have HX3 := hide hJx3
            clear hJx3 hy
            gi_wp2
            refine bodyPost_ret (results_none rfl _ _ _) rfl ?_
            exact ⟨⟨_, rfl⟩, .inr ⟨_, trivial, HX3.out⟩⟩
      · have HE : Hid (L.filter (mineB s) = (L.drop p).take k) := run_all HSP.out HNU.out hk HMI.out (fun i hi hpi => by omega)
        have hkl : k = L.length - p := by omega
        subst hkl
        gi_wp2
        go_end0
        exact ⟨⟨_, rfl⟩, .inl ⟨_, HE.out.symm, HJK.out⟩⟩
  · have hpe : L.length - p = 0 := by omega
    have HE : Hid (L.filter (mineB s) = []) := by
      unfold Hid
      have := run_all (k := 0) HSP.out HNU.out (by omega) (fun i _ h1 h2 => by omega) (fun i hi hpi => by omega)
      rw [this]
      rfl
    gi_wp2
    all_goals
      gi_loopw [19] (fun i wr => i = .int .i64 0 ∧ wr = w1) (fun _ _ => 0)
      case atStart => exact ⟨rfl, rfl⟩
      case round =>
        obtain ⟨rfl, rfl⟩ := hrel
        gi_wp2
        go_end0
        exact ⟨⟨_, rfl⟩, .inl ⟨_, HE.out.symm, HJ1.out⟩⟩
end
end Go.Proofs.YtemggnmooiaokaaGreat
