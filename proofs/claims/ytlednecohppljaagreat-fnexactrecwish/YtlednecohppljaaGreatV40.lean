import Derived.Test.YtlednecohppljaaGreatV38
import Derived.Test.YtlednecohppljaaGreatV39
namespace Go.Proofs.YtlednecohppljaaGreat
open Go.ChangeShapes Go.WideShapes Go.ChangeAt Go.RowKit Go.Deep
theorem Tryz.cells22 : Tryz.prog.cellsOf 22 = 1 := by kernel_rfl
theorem Tryz.cells24 : Tryz.prog.cellsOf 24 = 3 := by kernel_rfl
theorem lstRd {l : List Value} (h : l.length = 3) : ∃ c0 c1 c2, l = [c0, c1, c2] := by
  match l, h with
  | [c0, c1, c2], _ => exact ⟨c0, c1, c2, rfl⟩
section
variable {H : Type} {enc : TypeId × Value → H} {W : World}
set_option maxRecDepth 100000 in
theorem open_Rd0 {fuel : Nat} {cs : List Value} {x : DataW H × List MemPlace} (h : DataW.trod enc Tryz.prog W 0 (fun _ => true) true fuel 24 cs = some x) : ∃ U, RdC 0 W cs U := by
  obtain ⟨xs, n, _, _, hl, hlen, hfld⟩ := DataW.trod_struct Tryz.underlying24 h
  obtain ⟨c0, c1, c2, rfl⟩ := lstRd (hl.trans Tryz.cells24)
  simp only [Array.size, List.length_cons, List.length_nil] at hlen
  have g0 : DataW.trod enc Tryz.prog W 0 (fun _ => true) true n 3 ((([c0, c1, c2] : List Value).drop 0).take (Tryz.prog.cellsOf 3)) = xs[0]? := hfld 0 _ rfl
  have g1 : DataW.trod enc Tryz.prog W 0 (fun _ => true) true n 3 ((([c0, c1, c2] : List Value).drop 1).take (Tryz.prog.cellsOf 3)) = xs[1]? := hfld 1 _ rfl
  have g2 : DataW.trod enc Tryz.prog W 0 (fun _ => true) true n 22 ((([c0, c1, c2] : List Value).drop 2).take (Tryz.prog.cellsOf 22)) = xs[2]? := hfld 2 _ rfl
  simp only [Tryz.cells3, Tryz.cells22, List.drop_succ_cons, List.drop_zero, List.take_succ_cons, List.take_zero] at g0 g1 g2
  rw [List.getElem?_eq_getElem (by omega)] at g0 g1 g2
  obtain ⟨q0, e0, _, _⟩ := DataW.trod_int Tryz.underlying3 g0
  simp only [List.cons.injEq, and_true] at e0
  subst e0
  obtain ⟨q1, e1, _, _⟩ := DataW.trod_int Tryz.underlying3 g1
  simp only [List.cons.injEq, and_true] at e1
  subst e1
  obtain ⟨q2, h2⟩ := open_Rss g2
  obtain ⟨a0, k0, rfl⟩ := h2.form
  exact ⟨⟨q0, q1, q2⟩, a0, k0, rfl, ⟨h2⟩⟩
set_option maxRecDepth 100000 in
theorem open_Rd {r : Reach} {b0 : Nat} {v : Value} {d : DataW H} {p : List MemPlace} (hv : Value.okWide Tryz.prog W r b0 24 v) (h : DataW.Trod enc Tryz.prog W 0 (fun _ => true) true 24 v d p) : ∃ (cs : List Value) (U : Rd), v = .agg cs.toArray ∧ RdC 0 W cs U := by
  obtain ⟨cs, rfl, hsz⟩ := okWide_struct Tryz.underlying24 hv
  obtain ⟨fuel, hf⟩ := h
  obtain ⟨U, hU⟩ := open_Rd0 (cs := cs.toList) hf
  exact ⟨cs.toList, U, rfl, hU⟩
end
theorem Tryz.cells32 : Tryz.prog.cellsOf 32 = 8 := by kernel_rfl
theorem lstRm {l : List Value} (h : l.length = 8) : ∃ c0 c1 c2 c3 c4 c5 c6 c7, l = [c0, c1, c2, c3, c4, c5, c6, c7] := by
  match l, h with
  | [c0, c1, c2, c3, c4, c5, c6, c7], _ => exact ⟨c0, c1, c2, c3, c4, c5, c6, c7, rfl⟩
section
variable {H : Type} {enc : TypeId × Value → H} {W : World}
set_option maxRecDepth 100000 in
theorem open_Rm0 {fuel : Nat} {cs : List Value} {x : DataW H × List MemPlace} (h : DataW.trod enc Tryz.prog W 0 (fun _ => true) true fuel 32 cs = some x) : ∃ U, RmC 0 W cs U := by
  obtain ⟨xs, n, _, _, hl, hlen, hfld⟩ := DataW.trod_struct Tryz.underlying32 h
  obtain ⟨c0, c1, c2, c3, c4, c5, c6, c7, rfl⟩ := lstRm (hl.trans Tryz.cells32)
  simp only [Array.size, List.length_cons, List.length_nil] at hlen
  have g0 : DataW.trod enc Tryz.prog W 0 (fun _ => true) true n 3 ((([c0, c1, c2, c3, c4, c5, c6, c7] : List Value).drop 0).take (Tryz.prog.cellsOf 3)) = xs[0]? := hfld 0 _ rfl
  have g1 : DataW.trod enc Tryz.prog W 0 (fun _ => true) true n 3 ((([c0, c1, c2, c3, c4, c5, c6, c7] : List Value).drop 1).take (Tryz.prog.cellsOf 3)) = xs[1]? := hfld 1 _ rfl
  have g2 : DataW.trod enc Tryz.prog W 0 (fun _ => true) true n 3 ((([c0, c1, c2, c3, c4, c5, c6, c7] : List Value).drop 2).take (Tryz.prog.cellsOf 3)) = xs[2]? := hfld 2 _ rfl
  have g3 : DataW.trod enc Tryz.prog W 0 (fun _ => true) true n 3 ((([c0, c1, c2, c3, c4, c5, c6, c7] : List Value).drop 3).take (Tryz.prog.cellsOf 3)) = xs[3]? := hfld 3 _ rfl
  have g4 : DataW.trod enc Tryz.prog W 0 (fun _ => true) true n 3 ((([c0, c1, c2, c3, c4, c5, c6, c7] : List Value).drop 4).take (Tryz.prog.cellsOf 3)) = xs[4]? := hfld 4 _ rfl
  have g5 : DataW.trod enc Tryz.prog W 0 (fun _ => true) true n 3 ((([c0, c1, c2, c3, c4, c5, c6, c7] : List Value).drop 5).take (Tryz.prog.cellsOf 3)) = xs[5]? := hfld 5 _ rfl
  have g6 : DataW.trod enc Tryz.prog W 0 (fun _ => true) true n 9 ((([c0, c1, c2, c3, c4, c5, c6, c7] : List Value).drop 6).take (Tryz.prog.cellsOf 9)) = xs[6]? := hfld 6 _ rfl
  have g7 : DataW.trod enc Tryz.prog W 0 (fun _ => true) true n 22 ((([c0, c1, c2, c3, c4, c5, c6, c7] : List Value).drop 7).take (Tryz.prog.cellsOf 22)) = xs[7]? := hfld 7 _ rfl
  simp only [Tryz.cells3, Tryz.cells9, Tryz.cells22, List.drop_succ_cons, List.drop_zero, List.take_succ_cons, List.take_zero] at g0 g1 g2 g3 g4 g5 g6 g7
  rw [List.getElem?_eq_getElem (by omega)] at g0 g1 g2 g3 g4 g5 g6 g7
  obtain ⟨q0, e0, _, _⟩ := DataW.trod_int Tryz.underlying3 g0
  simp only [List.cons.injEq, and_true] at e0
  subst e0
  obtain ⟨q1, e1, _, _⟩ := DataW.trod_int Tryz.underlying3 g1
  simp only [List.cons.injEq, and_true] at e1
  subst e1
  obtain ⟨q2, e2, _, _⟩ := DataW.trod_int Tryz.underlying3 g2
  simp only [List.cons.injEq, and_true] at e2
  subst e2
  obtain ⟨q3, e3, _, _⟩ := DataW.trod_int Tryz.underlying3 g3
  simp only [List.cons.injEq, and_true] at e3
  subst e3
  obtain ⟨q4, e4, _, _⟩ := DataW.trod_int Tryz.underlying3 g4
  simp only [List.cons.injEq, and_true] at e4
  subst e4
  obtain ⟨q5, e5, _, _⟩ := DataW.trod_int Tryz.underlying3 g5
  simp only [List.cons.injEq, and_true] at e5
  subst e5
  obtain ⟨q6, e6, _, t6⟩ := DataW.trod_string Tryz.underlying9 g6
  simp only [List.cons.injEq, and_true] at e6
  subst e6
  obtain ⟨q7, h7⟩ := open_Rss g7
  obtain ⟨a0, k0, rfl⟩ := h7.form
  exact ⟨⟨q0, q1, q2, q3, q4, q5, q6, q7⟩, a0, k0, rfl, ⟨h7, t6⟩⟩
set_option maxRecDepth 100000 in
theorem open_Rm {r : Reach} {b0 : Nat} {v : Value} {d : DataW H} {p : List MemPlace} (hv : Value.okWide Tryz.prog W r b0 32 v) (h : DataW.Trod enc Tryz.prog W 0 (fun _ => true) true 32 v d p) : ∃ (cs : List Value) (U : Rm), v = .agg cs.toArray ∧ RmC 0 W cs U := by
  obtain ⟨cs, rfl, hsz⟩ := okWide_struct Tryz.underlying32 hv
  obtain ⟨fuel, hf⟩ := h
  obtain ⟨U, hU⟩ := open_Rm0 (cs := cs.toList) hf
  exact ⟨cs.toList, U, rfl, hU⟩
end
end Go.Proofs.YtlednecohppljaaGreat
namespace Go.Proofs.YtlednecohppljaaGreat
open Go.RowKit Go.Deep

def upd {X : Type} (f : Nat → X) (i : Nat) (x : X) : Nat → X := fun k => if k = i then x else f k
theorem upd_same {X : Type} (f : Nat → X) (i : Nat) (x : X) : upd f i x i = x := if_pos rfl
theorem upd_ne {X : Type} (f : Nat → X) {i k : Nat} (x : X) (h : k ≠ i) : upd f i x k = f k := if_neg h
def rrF (U : Rr) (b : Nat → Option Addr) (m : Nat → Nat) : List Value := rrL U (b 0) (m 0) (b 1) (m 1) (b 2) (m 2) (b 3) (m 3) (b 4) (m 4) (b 5) (m 5) (b 6) (m 6)
abbrev CpF (w : World) (lo : Nat) (c : Nat → Nat × Nat) (b : Nat → Option Addr) (m : Nat → Nat) (U : Rr) : Prop :=
  Cpn w lo c (.slice (b 0) U.sf.sl.length (m 0)) (.slice (b 1) U.dk.sl.length (m 1)) (.slice (b 2) U.he.length (m 2)) (.slice (b 3) U.wi.length (m 3)) (.slice (b 4) U.ye.length (m 4)) (.slice (b 5) U.be.length (m 5)) (.slice (b 6) U.ac.length (m 6)) U
/-- blocks that a call leaves as they are -/
structure Kept (K : Nat → Prop) (w w' : World) : Prop where
  os : w'.os = w.os
  tape : w'.tape = w.tape
  output : w'.output = w.output
  size : w.heap.size ≤ w'.heap.size
  block : ∀ k, K k → w'.heap[k]? = w.heap[k]?
theorem Kept.refl (K : Nat → Prop) (w : World) : Kept K w w := ⟨rfl, rfl, rfl, Nat.le_refl _, fun _ _ => rfl⟩
theorem Kept.trans {K : Nat → Prop} {a b c : World} (h : Kept K a b) (k : Kept K b c) : Kept K a c :=
  ⟨k.os.trans h.os, k.tape.trans h.tape, k.output.trans h.output, Nat.le_trans h.size k.size, fun i hi => (k.block i hi).trans (h.block i hi)⟩
theorem Kept.less {K K' : Nat → Prop} {a b : World} (h : Kept K a b) (hk : ∀ k, K' k → K k) : Kept K' a b := ⟨h.os, h.tape, h.output, h.size, fun k hk' => h.block k (hk k hk')⟩
theorem Kept.touch {K : Nat → Prop} {lo hi : Nat} {w w' : World} (h : Touch lo hi w w') (hk : ∀ k, K k → k < w.heap.size ∧ (k < lo ∨ hi ≤ k)) : Kept K w w' :=
  ⟨h.os, h.tape, h.output, h.size, fun k hk' => h.block k (hk k hk').1 (hk k hk').2⟩
theorem Kept.below {K : Nat → Prop} {n : Nat} {w w' : World} (h : Below n w w') (hk : ∀ k, K k → k < n) : Kept K w w' :=
  ⟨h.os, h.tape, h.output, h.size, fun k hk' => h.block k (hk k hk')⟩
theorem Kept.under {K : Nat → Prop} {n : Nat} {w w' : World} (h : Kept K w w') (hk : ∀ k, k < n → K k) : Below n w w' :=
  ⟨h.os, h.tape, h.output, h.size, fun k hk' => h.block k (hk k hk')⟩
theorem Box.kept {K : Nat → Prop} {w w' : World} {β : Nat} {cs : Array Value} (h : Box w β cs) (hk : Kept K w w') (hb : K β) : Box w' β cs :=
  ⟨Nat.lt_of_lt_of_le h.lt hk.size, fun i => (World.cell?_of_block (w := w) (a := ⟨β, i, none⟩) (hk.block β hb)).trans (h.cell i), fun i => (World.frozen?_of_block (w := w) (a := ⟨β, i, none⟩) (hk.block β hb)).trans (h.free i)⟩
/-- a recorder at work: its box γ, its lists in parts apart from γ and from the blocks K that are to be kept -/
structure Rw (K : Nat → Prop) (lo : Nat) (w : World) (γ : Nat) (b : Nat → Option Addr) (m : Nat → Nat) (c : Nat → Nat × Nat) (U : Rr) : Prop where
  box : Box w γ (rrF U b m).toArray
  cp : CpF w lo c b m U
  low : lo ≤ w.heap.size
  far : ∀ i, i < 7 → γ < (c i).1 ∨ (c i).2 ≤ γ
  prot : ∀ k, K k → k < w.heap.size ∧ k ≠ γ ∧ ∀ i, i < 7 → k < (c i).1 ∨ (c i).2 ≤ k
def Wr (K : Nat → Prop) (lo : Nat) (w : World) (γ : Nat) (U : Rr) : Prop := ∃ b m c, Rw K lo w γ b m c U
theorem Rw.shield {K K' : Nat → Prop} {lo : Nat} {w w' : World} {γ : Nat} {b : Nat → Option Addr} {m : Nat → Nat} {c : Nat → Nat × Nat} {U : Rr} (h : Rw K lo w γ b m c U) (hb : Below w.heap.size w w') (hk : ∀ k, K' k → K k ∨ (w.heap.size ≤ k ∧ k < w'.heap.size)) : Rw K' lo w' γ b m c U := by
  have hsz := hb.size
  refine ⟨h.box.on hb, h.cp.below hb, Nat.le_trans h.low hsz, h.far, fun k hk' => ?_⟩
  rcases hk k hk' with h1 | ⟨h1, h2⟩
  · have := h.prot k h1
    exact ⟨by omega, this.2⟩
  · refine ⟨h2, by have := h.box.lt; omega, fun i hi => Or.inr ?_⟩
    have := (h.cp.seg i hi).2
    omega
theorem Rw.on {K : Nat → Prop} {lo : Nat} {w w' : World} {γ : Nat} {b : Nat → Option Addr} {m : Nat → Nat} {c : Nat → Nat × Nat} {U : Rr} (h : Rw K lo w γ b m c U) (hb : Below w.heap.size w w') : Rw K lo w' γ b m c U := h.shield hb fun _ h => Or.inl h
theorem Wr.shield {K K' : Nat → Prop} {lo : Nat} {w w' : World} {γ : Nat} {U : Rr} (h : Wr K lo w γ U) (hb : Below w.heap.size w w') (hk : ∀ k, K' k → K k ∨ (w.heap.size ≤ k ∧ k < w'.heap.size)) : Wr K' lo w' γ U := by
  obtain ⟨b, m, c, h⟩ := h
  exact ⟨b, m, c, h.shield hb hk⟩
theorem Wr.less {K K' : Nat → Prop} {lo : Nat} {w : World} {γ : Nat} {U : Rr} (h : Wr K lo w γ U) (hk : ∀ k, K' k → K k) : Wr K' lo w γ U := h.shield (Below.refl _ _) fun k h => Or.inl (hk k h)
/-- a store into a block that is kept -/
theorem Rw.other {K : Nat → Prop} {lo : Nat} {w w' : World} {γ : Nat} {b : Nat → Option Addr} {m : Nat → Nat} {c : Nat → Nat × Nat} {U : Rr} (h : Rw K lo w γ b m c U) {β : Nat} (hβ : K β) (ht : Touch β (β + 1) w w') : Rw K lo w' γ b m c U := by
  have hp := h.prot β hβ
  have hsz := ht.size
  exact ⟨h.box.tch2 ht (by have := hp.2.1; omega), h.cp.touch ht (fun i hi => by have := hp.2.2 i hi; omega), Nat.le_trans h.low hsz, h.far, fun k hk => by have := h.prot k hk; exact ⟨by omega, this.2⟩⟩
/-- a scalar of the box -/
theorem Rw.scal {K : Nat → Prop} {lo : Nat} {w : World} {γ : Nat} {b : Nat → Option Addr} {m : Nat → Nat} {c : Nat → Nat × Nat} {U U' : Rr} (h : Rw K lo w γ b m c U) {j : Nat} {v : Value} (hj : j < (rrF U b m).toArray.size) (he : (rrF U b m).toArray.set j v hj = (rrF U' b m).toArray) (hc : ∀ W, CpF W lo c b m U → CpF W lo c b m U') :
    Rw K lo (w.setCell ⟨γ, j, none⟩ v) γ b m c U' ∧ Kept K w (w.setCell ⟨γ, j, none⟩ v) := by
  have ht : Touch γ (γ + 1) w (w.setCell ⟨γ, j, none⟩ v) := Touch.setCell _ _ _ _ _ ⟨Nat.le_refl _, Nat.lt_succ_self _⟩
  refine ⟨⟨by rw [← he]; exact h.box.set v hj, hc _ (h.cp.touch ht (fun i hi => by have := h.far i hi; omega)), Nat.le_trans h.low ht.size, h.far, fun k hk => ?_⟩, Kept.touch ht fun k hk => ?_⟩
  · have := h.prot k hk
    exact ⟨Nat.lt_of_lt_of_le this.1 ht.size, this.2⟩
  · have := h.prot k hk
    omega
theorem Rw.own {K : Nat → Prop} {lo : Nat} {w : World} {γ : Nat} {b : Nat → Option Addr} {m : Nat → Nat} {c : Nat → Nat × Nat} {U : Rr} (h : Rw K lo w γ b m c U) (hz : RrZ U) : RrOwn lo w.heap.size w (rrF U b m) U :=
  ⟨b 0, m 0, b 1, m 1, b 2, m 2, b 3, m 3, b 4, m 4, b 5, m 5, b 6, m 6, c, rfl, h.cp.own hz⟩
theorem Cpn.grow0 {w w' : World} {lo : Nat} {c : Nat → Nat × Nat} {v0 v1 v2 v3 v4 v5 v6 v' : Value} {U : Rr} {L' : List Rs} (h : Cpn w lo c v0 v1 v2 v3 v4 v5 v6 U) (ht : Touch (c 0).1 (c 0).2 w w') (hlo : lo ≤ w.heap.size) {p : Nat × Nat} (hp : p = c 0 ∨ (w.heap.size ≤ p.1 ∧ p.2 ≤ w'.heap.size)) (hr : NRow rsL 2 w' p.1 p.2 v' L') : Cpn w' lo (upd c 0 p) v' v1 v2 v3 v4 v5 v6 { U with sf := { U.sf with sl := L' } } := by
  have hsz := ht.size
  have hs0 := h.seg 0 (by decide)
  refine ⟨fun k hk => ?_, fun k j hk hj hne => ?_, hr, h.o1.touch ht (h.ap 1 0 (by decide) (by decide) (by decide)), (by obtain ⟨L2, h2, e2⟩ := h.o2; exact ⟨L2, h2.touch cloM ht (h.ap 2 0 (by decide) (by decide) (by decide)), e2⟩), h.o3.touch ht (h.ap 3 0 (by decide) (by decide) (by decide)), h.o4.touch ht (h.ap 4 0 (by decide) (by decide) (by decide)), h.o5.touch ht (h.ap 5 0 (by decide) (by decide) (by decide)), (by obtain ⟨L6, h6, e6⟩ := h.o6; exact ⟨L6, h6.touch cloA ht (h.ap 6 0 (by decide) (by decide) (by decide)), e6⟩)⟩
  · by_cases e : k = 0
    · subst e
      rw [upd_same]
      rcases hp with rfl | hp <;> omega
    · rw [upd_ne _ _ e]
      have := h.seg k hk
      omega
  · by_cases e : k = 0
    · subst e
      rw [upd_same, upd_ne _ _ (Ne.symm hne)]
      have := h.seg j hj
      rcases hp with rfl | hp
      · exact h.ap _ j hk hj hne
      · omega
    · rw [upd_ne _ _ e]
      by_cases e' : j = 0
      · subst e'
        rw [upd_same]
        have := h.seg k hk
        rcases hp with rfl | hp
        · exact h.ap k _ hk hj hne
        · omega
      · rw [upd_ne _ _ e']
        exact h.ap k j hk hj hne
theorem Rw.part0 {K : Nat → Prop} {lo : Nat} {w w' : World} {γ : Nat} {b : Nat → Option Addr} {m : Nat → Nat} {c : Nat → Nat × Nat} {U : Rr} {L' : List Rs} {a' : Option Addr} {m' : Nat} (h : Rw K lo w γ b m c U) (ht : Touch (c 0).1 (c 0).2 w w') {p : Nat × Nat} (hp : p = c 0 ∨ (w.heap.size ≤ p.1 ∧ p.2 ≤ w'.heap.size)) (hr : NRow rsL 2 w' p.1 p.2 (.slice a' L'.length m') L') :
    Rw K lo (w'.setCell ⟨γ, 5, none⟩ (.slice a' L'.length m')) γ (upd b 0 a') (upd m 0 m') (upd c 0 p) { U with sf := { U.sf with sl := L' } } ∧ Kept K w (w'.setCell ⟨γ, 5, none⟩ (.slice a' L'.length m')) := by
  have hsz := ht.size
  have ht2 : Touch γ (γ + 1) w' (w'.setCell ⟨γ, 5, none⟩ (.slice a' L'.length m')) := Touch.setCell _ _ _ _ _ ⟨Nat.le_refl _, Nat.lt_succ_self _⟩
  have hsz2 := ht2.size
  have hγ := h.box.lt
  have hfar : ∀ k, k < 7 → γ < (upd c 0 p k).1 ∨ (upd c 0 p k).2 ≤ γ := fun k hk => by
    by_cases e : k = 0
    · subst e
      rw [upd_same]
      rcases hp with rfl | hp
      · exact h.far _ hk
      · omega
    · rw [upd_ne _ _ e]
      exact h.far k hk
  refine ⟨⟨?_, ?_, by have := h.low; omega, hfar, fun k hk => ?_⟩, ?_⟩
  · have hb := (h.box.tch2 ht (h.far 0 (by decide))).set (k := 5) (.slice a' L'.length m') (by show 5 < 18; omega)
    exact hb
  · have hc := (Cpn.grow0 (v' := .slice a' L'.length m') h.cp ht h.low hp hr).touch ht2 (fun k hk => by have := hfar k hk; omega)
    exact hc
  · have := h.prot k hk
    refine ⟨by omega, this.2.1, fun j hj => ?_⟩
    by_cases e : j = 0
    · subst e
      rw [upd_same]
      rcases hp with rfl | hp
      · exact this.2.2 _ hj
      · omega
    · rw [upd_ne _ _ e]
      exact this.2.2 j hj
  · refine (Kept.touch ht fun k hk => ?_).trans (Kept.touch ht2 fun k hk => ?_)
    · have := h.prot k hk
      exact ⟨this.1, this.2.2 0 (by decide)⟩
    · have := h.prot k hk
      omega
theorem Cpn.grow1 {w w' : World} {lo : Nat} {c : Nat → Nat × Nat} {v0 v1 v2 v3 v4 v5 v6 v' : Value} {U : Rr} {L' : List Rs} (h : Cpn w lo c v0 v1 v2 v3 v4 v5 v6 U) (ht : Touch (c 1).1 (c 1).2 w w') (hlo : lo ≤ w.heap.size) {p : Nat × Nat} (hp : p = c 1 ∨ (w.heap.size ≤ p.1 ∧ p.2 ≤ w'.heap.size)) (hr : NRow rsL 2 w' p.1 p.2 v' L') : Cpn w' lo (upd c 1 p) v0 v' v2 v3 v4 v5 v6 { U with dk := { U.dk with sl := L' } } := by
  have hsz := ht.size
  have hs1 := h.seg 1 (by decide)
  refine ⟨fun k hk => ?_, fun k j hk hj hne => ?_, h.o0.touch ht (h.ap 0 1 (by decide) (by decide) (by decide)), hr, (by obtain ⟨L2, h2, e2⟩ := h.o2; exact ⟨L2, h2.touch cloM ht (h.ap 2 1 (by decide) (by decide) (by decide)), e2⟩), h.o3.touch ht (h.ap 3 1 (by decide) (by decide) (by decide)), h.o4.touch ht (h.ap 4 1 (by decide) (by decide) (by decide)), h.o5.touch ht (h.ap 5 1 (by decide) (by decide) (by decide)), (by obtain ⟨L6, h6, e6⟩ := h.o6; exact ⟨L6, h6.touch cloA ht (h.ap 6 1 (by decide) (by decide) (by decide)), e6⟩)⟩
  · by_cases e : k = 1
    · subst e
      rw [upd_same]
      rcases hp with rfl | hp <;> omega
    · rw [upd_ne _ _ e]
      have := h.seg k hk
      omega
  · by_cases e : k = 1
    · subst e
      rw [upd_same, upd_ne _ _ (Ne.symm hne)]
      have := h.seg j hj
      rcases hp with rfl | hp
      · exact h.ap _ j hk hj hne
      · omega
    · rw [upd_ne _ _ e]
      by_cases e' : j = 1
      · subst e'
        rw [upd_same]
        have := h.seg k hk
        rcases hp with rfl | hp
        · exact h.ap k _ hk hj hne
        · omega
      · rw [upd_ne _ _ e']
        exact h.ap k j hk hj hne
theorem Rw.part1 {K : Nat → Prop} {lo : Nat} {w w' : World} {γ : Nat} {b : Nat → Option Addr} {m : Nat → Nat} {c : Nat → Nat × Nat} {U : Rr} {L' : List Rs} {a' : Option Addr} {m' : Nat} (h : Rw K lo w γ b m c U) (ht : Touch (c 1).1 (c 1).2 w w') {p : Nat × Nat} (hp : p = c 1 ∨ (w.heap.size ≤ p.1 ∧ p.2 ≤ w'.heap.size)) (hr : NRow rsL 2 w' p.1 p.2 (.slice a' L'.length m') L') :
    Rw K lo (w'.setCell ⟨γ, 8, none⟩ (.slice a' L'.length m')) γ (upd b 1 a') (upd m 1 m') (upd c 1 p) { U with dk := { U.dk with sl := L' } } ∧ Kept K w (w'.setCell ⟨γ, 8, none⟩ (.slice a' L'.length m')) := by
  have hsz := ht.size
  have ht2 : Touch γ (γ + 1) w' (w'.setCell ⟨γ, 8, none⟩ (.slice a' L'.length m')) := Touch.setCell _ _ _ _ _ ⟨Nat.le_refl _, Nat.lt_succ_self _⟩
  have hsz2 := ht2.size
  have hγ := h.box.lt
  have hfar : ∀ k, k < 7 → γ < (upd c 1 p k).1 ∨ (upd c 1 p k).2 ≤ γ := fun k hk => by
    by_cases e : k = 1
    · subst e
      rw [upd_same]
      rcases hp with rfl | hp
      · exact h.far _ hk
      · omega
    · rw [upd_ne _ _ e]
      exact h.far k hk
  refine ⟨⟨?_, ?_, by have := h.low; omega, hfar, fun k hk => ?_⟩, ?_⟩
  · have hb := (h.box.tch2 ht (h.far 1 (by decide))).set (k := 8) (.slice a' L'.length m') (by show 8 < 18; omega)
    exact hb
  · have hc := (Cpn.grow1 (v' := .slice a' L'.length m') h.cp ht h.low hp hr).touch ht2 (fun k hk => by have := hfar k hk; omega)
    exact hc
  · have := h.prot k hk
    refine ⟨by omega, this.2.1, fun j hj => ?_⟩
    by_cases e : j = 1
    · subst e
      rw [upd_same]
      rcases hp with rfl | hp
      · exact this.2.2 _ hj
      · omega
    · rw [upd_ne _ _ e]
      exact this.2.2 j hj
  · refine (Kept.touch ht fun k hk => ?_).trans (Kept.touch ht2 fun k hk => ?_)
    · have := h.prot k hk
      exact ⟨this.1, this.2.2 1 (by decide)⟩
    · have := h.prot k hk
      omega
theorem Cpn.grow2 {w w' : World} {lo : Nat} {c : Nat → Nat × Nat} {v0 v1 v2 v3 v4 v5 v6 v' : Value} {U : Rr} {L' : List Rm} (h : Cpn w lo c v0 v1 v2 v3 v4 v5 v6 U) (ht : Touch (c 2).1 (c 2).2 w w') (hlo : lo ≤ w.heap.size) {p : Nat × Nat} (hp : p = c 2 ∨ (w.heap.size ≤ p.1 ∧ p.2 ≤ w'.heap.size)) (hr : (∃ L, NGRow PM mxL 8 w' p.1 p.2 v' L ∧ L.map (·.1) = L')) : Cpn w' lo (upd c 2 p) v0 v1 v' v3 v4 v5 v6 { U with he := L' } := by
  have hsz := ht.size
  have hs2 := h.seg 2 (by decide)
  refine ⟨fun k hk => ?_, fun k j hk hj hne => ?_, h.o0.touch ht (h.ap 0 2 (by decide) (by decide) (by decide)), h.o1.touch ht (h.ap 1 2 (by decide) (by decide) (by decide)), hr, h.o3.touch ht (h.ap 3 2 (by decide) (by decide) (by decide)), h.o4.touch ht (h.ap 4 2 (by decide) (by decide) (by decide)), h.o5.touch ht (h.ap 5 2 (by decide) (by decide) (by decide)), (by obtain ⟨L6, h6, e6⟩ := h.o6; exact ⟨L6, h6.touch cloA ht (h.ap 6 2 (by decide) (by decide) (by decide)), e6⟩)⟩
  · by_cases e : k = 2
    · subst e
      rw [upd_same]
      rcases hp with rfl | hp <;> omega
    · rw [upd_ne _ _ e]
      have := h.seg k hk
      omega
  · by_cases e : k = 2
    · subst e
      rw [upd_same, upd_ne _ _ (Ne.symm hne)]
      have := h.seg j hj
      rcases hp with rfl | hp
      · exact h.ap _ j hk hj hne
      · omega
    · rw [upd_ne _ _ e]
      by_cases e' : j = 2
      · subst e'
        rw [upd_same]
        have := h.seg k hk
        rcases hp with rfl | hp
        · exact h.ap k _ hk hj hne
        · omega
      · rw [upd_ne _ _ e']
        exact h.ap k j hk hj hne
theorem Rw.part2 {K : Nat → Prop} {lo : Nat} {w w' : World} {γ : Nat} {b : Nat → Option Addr} {m : Nat → Nat} {c : Nat → Nat × Nat} {U : Rr} {L' : List Rm} {a' : Option Addr} {m' : Nat} (h : Rw K lo w γ b m c U) (ht : Touch (c 2).1 (c 2).2 w w') {p : Nat × Nat} (hp : p = c 2 ∨ (w.heap.size ≤ p.1 ∧ p.2 ≤ w'.heap.size)) (hr : (∃ L, NGRow PM mxL 8 w' p.1 p.2 (.slice a' L'.length m') L ∧ L.map (·.1) = L')) :
    Rw K lo (w'.setCell ⟨γ, 9, none⟩ (.slice a' L'.length m')) γ (upd b 2 a') (upd m 2 m') (upd c 2 p) { U with he := L' } ∧ Kept K w (w'.setCell ⟨γ, 9, none⟩ (.slice a' L'.length m')) := by
  have hsz := ht.size
  have ht2 : Touch γ (γ + 1) w' (w'.setCell ⟨γ, 9, none⟩ (.slice a' L'.length m')) := Touch.setCell _ _ _ _ _ ⟨Nat.le_refl _, Nat.lt_succ_self _⟩
  have hsz2 := ht2.size
  have hγ := h.box.lt
  have hfar : ∀ k, k < 7 → γ < (upd c 2 p k).1 ∨ (upd c 2 p k).2 ≤ γ := fun k hk => by
    by_cases e : k = 2
    · subst e
      rw [upd_same]
      rcases hp with rfl | hp
      · exact h.far _ hk
      · omega
    · rw [upd_ne _ _ e]
      exact h.far k hk
  refine ⟨⟨?_, ?_, by have := h.low; omega, hfar, fun k hk => ?_⟩, ?_⟩
  · have hb := (h.box.tch2 ht (h.far 2 (by decide))).set (k := 9) (.slice a' L'.length m') (by show 9 < 18; omega)
    exact hb
  · have hc := (Cpn.grow2 (v' := .slice a' L'.length m') h.cp ht h.low hp hr).touch ht2 (fun k hk => by have := hfar k hk; omega)
    exact hc
  · have := h.prot k hk
    refine ⟨by omega, this.2.1, fun j hj => ?_⟩
    by_cases e : j = 2
    · subst e
      rw [upd_same]
      rcases hp with rfl | hp
      · exact this.2.2 _ hj
      · omega
    · rw [upd_ne _ _ e]
      exact this.2.2 j hj
  · refine (Kept.touch ht fun k hk => ?_).trans (Kept.touch ht2 fun k hk => ?_)
    · have := h.prot k hk
      exact ⟨this.1, this.2.2 2 (by decide)⟩
    · have := h.prot k hk
      omega
theorem Cpn.grow3 {w w' : World} {lo : Nat} {c : Nat → Nat × Nat} {v0 v1 v2 v3 v4 v5 v6 v' : Value} {U : Rr} {L' : List ByteArray} (h : Cpn w lo c v0 v1 v2 v3 v4 v5 v6 U) (ht : Touch (c 3).1 (c 3).2 w w') (hlo : lo ≤ w.heap.size) {p : Nat × Nat} (hp : p = c 3 ∨ (w.heap.size ≤ p.1 ∧ p.2 ≤ w'.heap.size)) (hr : NRow tyL 1 w' p.1 p.2 v' L') : Cpn w' lo (upd c 3 p) v0 v1 v2 v' v4 v5 v6 { U with wi := L' } := by
  have hsz := ht.size
  have hs3 := h.seg 3 (by decide)
  refine ⟨fun k hk => ?_, fun k j hk hj hne => ?_, h.o0.touch ht (h.ap 0 3 (by decide) (by decide) (by decide)), h.o1.touch ht (h.ap 1 3 (by decide) (by decide) (by decide)), (by obtain ⟨L2, h2, e2⟩ := h.o2; exact ⟨L2, h2.touch cloM ht (h.ap 2 3 (by decide) (by decide) (by decide)), e2⟩), hr, h.o4.touch ht (h.ap 4 3 (by decide) (by decide) (by decide)), h.o5.touch ht (h.ap 5 3 (by decide) (by decide) (by decide)), (by obtain ⟨L6, h6, e6⟩ := h.o6; exact ⟨L6, h6.touch cloA ht (h.ap 6 3 (by decide) (by decide) (by decide)), e6⟩)⟩
  · by_cases e : k = 3
    · subst e
      rw [upd_same]
      rcases hp with rfl | hp <;> omega
    · rw [upd_ne _ _ e]
      have := h.seg k hk
      omega
  · by_cases e : k = 3
    · subst e
      rw [upd_same, upd_ne _ _ (Ne.symm hne)]
      have := h.seg j hj
      rcases hp with rfl | hp
      · exact h.ap _ j hk hj hne
      · omega
    · rw [upd_ne _ _ e]
      by_cases e' : j = 3
      · subst e'
        rw [upd_same]
        have := h.seg k hk
        rcases hp with rfl | hp
        · exact h.ap k _ hk hj hne
        · omega
      · rw [upd_ne _ _ e']
        exact h.ap k j hk hj hne
theorem Rw.part3 {K : Nat → Prop} {lo : Nat} {w w' : World} {γ : Nat} {b : Nat → Option Addr} {m : Nat → Nat} {c : Nat → Nat × Nat} {U : Rr} {L' : List ByteArray} {a' : Option Addr} {m' : Nat} (h : Rw K lo w γ b m c U) (ht : Touch (c 3).1 (c 3).2 w w') {p : Nat × Nat} (hp : p = c 3 ∨ (w.heap.size ≤ p.1 ∧ p.2 ≤ w'.heap.size)) (hr : NRow tyL 1 w' p.1 p.2 (.slice a' L'.length m') L') :
    Rw K lo (w'.setCell ⟨γ, 10, none⟩ (.slice a' L'.length m')) γ (upd b 3 a') (upd m 3 m') (upd c 3 p) { U with wi := L' } ∧ Kept K w (w'.setCell ⟨γ, 10, none⟩ (.slice a' L'.length m')) := by
  have hsz := ht.size
  have ht2 : Touch γ (γ + 1) w' (w'.setCell ⟨γ, 10, none⟩ (.slice a' L'.length m')) := Touch.setCell _ _ _ _ _ ⟨Nat.le_refl _, Nat.lt_succ_self _⟩
  have hsz2 := ht2.size
  have hγ := h.box.lt
  have hfar : ∀ k, k < 7 → γ < (upd c 3 p k).1 ∨ (upd c 3 p k).2 ≤ γ := fun k hk => by
    by_cases e : k = 3
    · subst e
      rw [upd_same]
      rcases hp with rfl | hp
      · exact h.far _ hk
      · omega
    · rw [upd_ne _ _ e]
      exact h.far k hk
  refine ⟨⟨?_, ?_, by have := h.low; omega, hfar, fun k hk => ?_⟩, ?_⟩
  · have hb := (h.box.tch2 ht (h.far 3 (by decide))).set (k := 10) (.slice a' L'.length m') (by show 10 < 18; omega)
    exact hb
  · have hc := (Cpn.grow3 (v' := .slice a' L'.length m') h.cp ht h.low hp hr).touch ht2 (fun k hk => by have := hfar k hk; omega)
    exact hc
  · have := h.prot k hk
    refine ⟨by omega, this.2.1, fun j hj => ?_⟩
    by_cases e : j = 3
    · subst e
      rw [upd_same]
      rcases hp with rfl | hp
      · exact this.2.2 _ hj
      · omega
    · rw [upd_ne _ _ e]
      exact this.2.2 j hj
  · refine (Kept.touch ht fun k hk => ?_).trans (Kept.touch ht2 fun k hk => ?_)
    · have := h.prot k hk
      exact ⟨this.1, this.2.2 3 (by decide)⟩
    · have := h.prot k hk
      omega
theorem Cpn.grow4 {w w' : World} {lo : Nat} {c : Nat → Nat × Nat} {v0 v1 v2 v3 v4 v5 v6 v' : Value} {U : Rr} {L' : List Int} (h : Cpn w lo c v0 v1 v2 v3 v4 v5 v6 U) (ht : Touch (c 4).1 (c 4).2 w w') (hlo : lo ≤ w.heap.size) {p : Nat × Nat} (hp : p = c 4 ∨ (w.heap.size ≤ p.1 ∧ p.2 ≤ w'.heap.size)) (hr : NRow inL 1 w' p.1 p.2 v' L') : Cpn w' lo (upd c 4 p) v0 v1 v2 v3 v' v5 v6 { U with ye := L' } := by
  have hsz := ht.size
  have hs4 := h.seg 4 (by decide)
  refine ⟨fun k hk => ?_, fun k j hk hj hne => ?_, h.o0.touch ht (h.ap 0 4 (by decide) (by decide) (by decide)), h.o1.touch ht (h.ap 1 4 (by decide) (by decide) (by decide)), (by obtain ⟨L2, h2, e2⟩ := h.o2; exact ⟨L2, h2.touch cloM ht (h.ap 2 4 (by decide) (by decide) (by decide)), e2⟩), h.o3.touch ht (h.ap 3 4 (by decide) (by decide) (by decide)), hr, h.o5.touch ht (h.ap 5 4 (by decide) (by decide) (by decide)), (by obtain ⟨L6, h6, e6⟩ := h.o6; exact ⟨L6, h6.touch cloA ht (h.ap 6 4 (by decide) (by decide) (by decide)), e6⟩)⟩
  · by_cases e : k = 4
    · subst e
      rw [upd_same]
      rcases hp with rfl | hp <;> omega
    · rw [upd_ne _ _ e]
      have := h.seg k hk
      omega
  · by_cases e : k = 4
    · subst e
      rw [upd_same, upd_ne _ _ (Ne.symm hne)]
      have := h.seg j hj
      rcases hp with rfl | hp
      · exact h.ap _ j hk hj hne
      · omega
    · rw [upd_ne _ _ e]
      by_cases e' : j = 4
      · subst e'
        rw [upd_same]
        have := h.seg k hk
        rcases hp with rfl | hp
        · exact h.ap k _ hk hj hne
        · omega
      · rw [upd_ne _ _ e']
        exact h.ap k j hk hj hne
theorem Rw.part4 {K : Nat → Prop} {lo : Nat} {w w' : World} {γ : Nat} {b : Nat → Option Addr} {m : Nat → Nat} {c : Nat → Nat × Nat} {U : Rr} {L' : List Int} {a' : Option Addr} {m' : Nat} (h : Rw K lo w γ b m c U) (ht : Touch (c 4).1 (c 4).2 w w') {p : Nat × Nat} (hp : p = c 4 ∨ (w.heap.size ≤ p.1 ∧ p.2 ≤ w'.heap.size)) (hr : NRow inL 1 w' p.1 p.2 (.slice a' L'.length m') L') :
    Rw K lo (w'.setCell ⟨γ, 14, none⟩ (.slice a' L'.length m')) γ (upd b 4 a') (upd m 4 m') (upd c 4 p) { U with ye := L' } ∧ Kept K w (w'.setCell ⟨γ, 14, none⟩ (.slice a' L'.length m')) := by
  have hsz := ht.size
  have ht2 : Touch γ (γ + 1) w' (w'.setCell ⟨γ, 14, none⟩ (.slice a' L'.length m')) := Touch.setCell _ _ _ _ _ ⟨Nat.le_refl _, Nat.lt_succ_self _⟩
  have hsz2 := ht2.size
  have hγ := h.box.lt
  have hfar : ∀ k, k < 7 → γ < (upd c 4 p k).1 ∨ (upd c 4 p k).2 ≤ γ := fun k hk => by
    by_cases e : k = 4
    · subst e
      rw [upd_same]
      rcases hp with rfl | hp
      · exact h.far _ hk
      · omega
    · rw [upd_ne _ _ e]
      exact h.far k hk
  refine ⟨⟨?_, ?_, by have := h.low; omega, hfar, fun k hk => ?_⟩, ?_⟩
  · have hb := (h.box.tch2 ht (h.far 4 (by decide))).set (k := 14) (.slice a' L'.length m') (by show 14 < 18; omega)
    exact hb
  · have hc := (Cpn.grow4 (v' := .slice a' L'.length m') h.cp ht h.low hp hr).touch ht2 (fun k hk => by have := hfar k hk; omega)
    exact hc
  · have := h.prot k hk
    refine ⟨by omega, this.2.1, fun j hj => ?_⟩
    by_cases e : j = 4
    · subst e
      rw [upd_same]
      rcases hp with rfl | hp
      · exact this.2.2 _ hj
      · omega
    · rw [upd_ne _ _ e]
      exact this.2.2 j hj
  · refine (Kept.touch ht fun k hk => ?_).trans (Kept.touch ht2 fun k hk => ?_)
    · have := h.prot k hk
      exact ⟨this.1, this.2.2 4 (by decide)⟩
    · have := h.prot k hk
      omega
theorem Cpn.grow5 {w w' : World} {lo : Nat} {c : Nat → Nat × Nat} {v0 v1 v2 v3 v4 v5 v6 v' : Value} {U : Rr} {L' : List Rs} (h : Cpn w lo c v0 v1 v2 v3 v4 v5 v6 U) (ht : Touch (c 5).1 (c 5).2 w w') (hlo : lo ≤ w.heap.size) {p : Nat × Nat} (hp : p = c 5 ∨ (w.heap.size ≤ p.1 ∧ p.2 ≤ w'.heap.size)) (hr : NRow rsL 2 w' p.1 p.2 v' L') : Cpn w' lo (upd c 5 p) v0 v1 v2 v3 v4 v' v6 { U with be := L' } := by
  have hsz := ht.size
  have hs5 := h.seg 5 (by decide)
  refine ⟨fun k hk => ?_, fun k j hk hj hne => ?_, h.o0.touch ht (h.ap 0 5 (by decide) (by decide) (by decide)), h.o1.touch ht (h.ap 1 5 (by decide) (by decide) (by decide)), (by obtain ⟨L2, h2, e2⟩ := h.o2; exact ⟨L2, h2.touch cloM ht (h.ap 2 5 (by decide) (by decide) (by decide)), e2⟩), h.o3.touch ht (h.ap 3 5 (by decide) (by decide) (by decide)), h.o4.touch ht (h.ap 4 5 (by decide) (by decide) (by decide)), hr, (by obtain ⟨L6, h6, e6⟩ := h.o6; exact ⟨L6, h6.touch cloA ht (h.ap 6 5 (by decide) (by decide) (by decide)), e6⟩)⟩
  · by_cases e : k = 5
    · subst e
      rw [upd_same]
      rcases hp with rfl | hp <;> omega
    · rw [upd_ne _ _ e]
      have := h.seg k hk
      omega
  · by_cases e : k = 5
    · subst e
      rw [upd_same, upd_ne _ _ (Ne.symm hne)]
      have := h.seg j hj
      rcases hp with rfl | hp
      · exact h.ap _ j hk hj hne
      · omega
    · rw [upd_ne _ _ e]
      by_cases e' : j = 5
      · subst e'
        rw [upd_same]
        have := h.seg k hk
        rcases hp with rfl | hp
        · exact h.ap k _ hk hj hne
        · omega
      · rw [upd_ne _ _ e']
        exact h.ap k j hk hj hne
theorem Rw.part5 {K : Nat → Prop} {lo : Nat} {w w' : World} {γ : Nat} {b : Nat → Option Addr} {m : Nat → Nat} {c : Nat → Nat × Nat} {U : Rr} {L' : List Rs} {a' : Option Addr} {m' : Nat} (h : Rw K lo w γ b m c U) (ht : Touch (c 5).1 (c 5).2 w w') {p : Nat × Nat} (hp : p = c 5 ∨ (w.heap.size ≤ p.1 ∧ p.2 ≤ w'.heap.size)) (hr : NRow rsL 2 w' p.1 p.2 (.slice a' L'.length m') L') :
    Rw K lo (w'.setCell ⟨γ, 15, none⟩ (.slice a' L'.length m')) γ (upd b 5 a') (upd m 5 m') (upd c 5 p) { U with be := L' } ∧ Kept K w (w'.setCell ⟨γ, 15, none⟩ (.slice a' L'.length m')) := by
  have hsz := ht.size
  have ht2 : Touch γ (γ + 1) w' (w'.setCell ⟨γ, 15, none⟩ (.slice a' L'.length m')) := Touch.setCell _ _ _ _ _ ⟨Nat.le_refl _, Nat.lt_succ_self _⟩
  have hsz2 := ht2.size
  have hγ := h.box.lt
  have hfar : ∀ k, k < 7 → γ < (upd c 5 p k).1 ∨ (upd c 5 p k).2 ≤ γ := fun k hk => by
    by_cases e : k = 5
    · subst e
      rw [upd_same]
      rcases hp with rfl | hp
      · exact h.far _ hk
      · omega
    · rw [upd_ne _ _ e]
      exact h.far k hk
  refine ⟨⟨?_, ?_, by have := h.low; omega, hfar, fun k hk => ?_⟩, ?_⟩
  · have hb := (h.box.tch2 ht (h.far 5 (by decide))).set (k := 15) (.slice a' L'.length m') (by show 15 < 18; omega)
    exact hb
  · have hc := (Cpn.grow5 (v' := .slice a' L'.length m') h.cp ht h.low hp hr).touch ht2 (fun k hk => by have := hfar k hk; omega)
    exact hc
  · have := h.prot k hk
    refine ⟨by omega, this.2.1, fun j hj => ?_⟩
    by_cases e : j = 5
    · subst e
      rw [upd_same]
      rcases hp with rfl | hp
      · exact this.2.2 _ hj
      · omega
    · rw [upd_ne _ _ e]
      exact this.2.2 j hj
  · refine (Kept.touch ht fun k hk => ?_).trans (Kept.touch ht2 fun k hk => ?_)
    · have := h.prot k hk
      exact ⟨this.1, this.2.2 5 (by decide)⟩
    · have := h.prot k hk
      omega
theorem Cpn.grow6 {w w' : World} {lo : Nat} {c : Nat → Nat × Nat} {v0 v1 v2 v3 v4 v5 v6 v' : Value} {U : Rr} {L' : List Ra} (h : Cpn w lo c v0 v1 v2 v3 v4 v5 v6 U) (ht : Touch (c 6).1 (c 6).2 w w') (hlo : lo ≤ w.heap.size) {p : Nat × Nat} (hp : p = c 6 ∨ (w.heap.size ≤ p.1 ∧ p.2 ≤ w'.heap.size)) (hr : (∃ L, NGRow PA axL 2 w' p.1 p.2 v' L ∧ L.map (·.1) = L')) : Cpn w' lo (upd c 6 p) v0 v1 v2 v3 v4 v5 v' { U with ac := L' } := by
  have hsz := ht.size
  have hs6 := h.seg 6 (by decide)
  refine ⟨fun k hk => ?_, fun k j hk hj hne => ?_, h.o0.touch ht (h.ap 0 6 (by decide) (by decide) (by decide)), h.o1.touch ht (h.ap 1 6 (by decide) (by decide) (by decide)), (by obtain ⟨L2, h2, e2⟩ := h.o2; exact ⟨L2, h2.touch cloM ht (h.ap 2 6 (by decide) (by decide) (by decide)), e2⟩), h.o3.touch ht (h.ap 3 6 (by decide) (by decide) (by decide)), h.o4.touch ht (h.ap 4 6 (by decide) (by decide) (by decide)), h.o5.touch ht (h.ap 5 6 (by decide) (by decide) (by decide)), hr⟩
  · by_cases e : k = 6
    · subst e
      rw [upd_same]
      rcases hp with rfl | hp <;> omega
    · rw [upd_ne _ _ e]
      have := h.seg k hk
      omega
  · by_cases e : k = 6
    · subst e
      rw [upd_same, upd_ne _ _ (Ne.symm hne)]
      have := h.seg j hj
      rcases hp with rfl | hp
      · exact h.ap _ j hk hj hne
      · omega
    · rw [upd_ne _ _ e]
      by_cases e' : j = 6
      · subst e'
        rw [upd_same]
        have := h.seg k hk
        rcases hp with rfl | hp
        · exact h.ap k _ hk hj hne
        · omega
      · rw [upd_ne _ _ e']
        exact h.ap k j hk hj hne
theorem Rw.part6 {K : Nat → Prop} {lo : Nat} {w w' : World} {γ : Nat} {b : Nat → Option Addr} {m : Nat → Nat} {c : Nat → Nat × Nat} {U : Rr} {L' : List Ra} {a' : Option Addr} {m' : Nat} (h : Rw K lo w γ b m c U) (ht : Touch (c 6).1 (c 6).2 w w') {p : Nat × Nat} (hp : p = c 6 ∨ (w.heap.size ≤ p.1 ∧ p.2 ≤ w'.heap.size)) (hr : (∃ L, NGRow PA axL 2 w' p.1 p.2 (.slice a' L'.length m') L ∧ L.map (·.1) = L')) :
    Rw K lo (w'.setCell ⟨γ, 16, none⟩ (.slice a' L'.length m')) γ (upd b 6 a') (upd m 6 m') (upd c 6 p) { U with ac := L' } ∧ Kept K w (w'.setCell ⟨γ, 16, none⟩ (.slice a' L'.length m')) := by
  have hsz := ht.size
  have ht2 : Touch γ (γ + 1) w' (w'.setCell ⟨γ, 16, none⟩ (.slice a' L'.length m')) := Touch.setCell _ _ _ _ _ ⟨Nat.le_refl _, Nat.lt_succ_self _⟩
  have hsz2 := ht2.size
  have hγ := h.box.lt
  have hfar : ∀ k, k < 7 → γ < (upd c 6 p k).1 ∨ (upd c 6 p k).2 ≤ γ := fun k hk => by
    by_cases e : k = 6
    · subst e
      rw [upd_same]
      rcases hp with rfl | hp
      · exact h.far _ hk
      · omega
    · rw [upd_ne _ _ e]
      exact h.far k hk
  refine ⟨⟨?_, ?_, by have := h.low; omega, hfar, fun k hk => ?_⟩, ?_⟩
  · have hb := (h.box.tch2 ht (h.far 6 (by decide))).set (k := 16) (.slice a' L'.length m') (by show 16 < 18; omega)
    exact hb
  · have hc := (Cpn.grow6 (v' := .slice a' L'.length m') h.cp ht h.low hp hr).touch ht2 (fun k hk => by have := hfar k hk; omega)
    exact hc
  · have := h.prot k hk
    refine ⟨by omega, this.2.1, fun j hj => ?_⟩
    by_cases e : j = 6
    · subst e
      rw [upd_same]
      rcases hp with rfl | hp
      · exact this.2.2 _ hj
      · omega
    · rw [upd_ne _ _ e]
      exact this.2.2 j hj
  · refine (Kept.touch ht fun k hk => ?_).trans (Kept.touch ht2 fun k hk => ?_)
    · have := h.prot k hk
      exact ⟨this.1, this.2.2 6 (by decide)⟩
    · have := h.prot k hk
      omega
end Go.Proofs.YtlednecohppljaaGreat
namespace Go.Proofs.YtlednecohppljaaGreat
open Go.RowKit Go.Deep

/-! impl.recKnows -/
def txSl (L : List Rs) (tx : ByteArray) : Bool := L.any (fun x => x.tx.toList == tx.toList)
set_option maxRecDepth 20000 in
set_option maxHeartbeats 4000000 in
theorem knows1_any (x : Rs) (tb : Nat) (tx : ByteArray) (w : World) (hb : w.cell? ⟨tb, 0, none⟩ = some (.string tx)) (hl : tb < w.heap.size) :
    Calls Tryz.prog 123 #[.agg #[.int .i64 x.ba, .string x.tx], .pointer (some ⟨tb, 0, none⟩)] w fun e w' => e = .returned (.bool (x.tx.toList == tx.toList)) ∧ Below w.heap.size w w' := by
  have g : ∀ o, (w.alloc o).cell? ⟨tb, 0, none⟩ = some (.string tx) := fun o => ((one_al w o).cell (p := ⟨tb, 0, none⟩) hl).trans hb
  have HO : ∀ o, Hid (Below w.heap.size w (w.alloc o)) := fun o => one_al w o
  clear hb
  cases q : (x.tx.toList == tx.toList) with
  | false =>
    go_enter Tryz.func123, Tryz.ntmps123
    go_wp2
    go_ret
    exact ⟨rfl, (HO _).out⟩
  | true =>
    go_enter Tryz.func123, Tryz.ntmps123
    go_wp2
    go_ret
    exact ⟨rfl, (HO _).out⟩
set_option maxRecDepth 20000 in
set_option maxHeartbeats 4000000 in
theorem indexK_any (lo : Nat) (v : Value) (L : List Rs) (tb : Nat) (tx : ByteArray) (w : World) (hv : RssAt lo w v L) (hb : w.cell? ⟨tb, 0, none⟩ = some (.string tx)) (hl : tb < w.heap.size) :
    Calls Tryz.prog 133 #[v, .func (.func 123) #[] #[.pointer (some ⟨tb, 0, none⟩)]] w fun e w' => (∃ r : Int, e = .returned (.int .i64 r) ∧ decide (0 ≤ r) = txSl L tx) ∧ Below w.heap.size w w' := by
  have HV := hide hv
  have HTB := hide hb
  have hm := hv.max
  unfold maxLen at hm
  obtain ⟨a, cap, rfl⟩ := hv.form
  clear hv hb
  have HE : Hid (txSl L tx = L.any (fun x => x.tx.toList == tx.toList)) := rfl
  go_enter Tryz.func133, Tryz.ntmps133
  go_wp2
  go_loopw [8] (fun i wr => ∃ k : Nat, i = .int .i64 k ∧ k ≤ L.length ∧ Below w.heap.size w wr ∧ ∀ j (hj : j < L.length), j < k → (L[j].tx.toList == tx.toList) = false) (fun i _ => L.length - (intOf i).toNat)
  case atStart => exact ⟨0, rfl, by omega, Below.refl _ _, fun j _ h => by omega⟩
  case round =>
    obtain ⟨k, rfl, hk, hb, hall⟩ := hrel
    have HAL := hide hall
    have HB := hide hb
    clear hall hb
    by_cases hlt : k < L.length
    · obtain ⟨b, off, rfl, hbw, -, hc⟩ := (HV.out.below HB.out).full' (by omega)
      obtain ⟨hsz, hcc⟩ := hc k hlt
      obtain ⟨x, hx⟩ : ∃ x, x = L[k] := ⟨_, rfl⟩
      rw [← hx] at hsz hcc
      have HX := hide hx
      obtain ⟨e0, e1⟩ := hcc
      have i0 : (0 : Int) ≤ (k : Int) := by omega
      have i1 : (k : Int) < (L.length : Int) := by omega
      clear hc hsz hx
      go_wp2_with fail
      clear e0 e1
      refine (knows1_any x tb tx wr ((HB.out.cell (p := ⟨tb, 0, none⟩) hl).trans HTB.out) (Nat.lt_of_lt_of_le hl HB.out.size)).mono ?_
      rintro e w1 ⟨rfl, hb1⟩
      have HB1 := hide (bt HB.out hb1)
      clear hb1
      cases q : (x.tx.toList == tx.toList) with
      | true =>
        have HT : Hid (txSl L tx = true) := by unfold Hid; rw [HE.out]; exact any_yes hlt (by rw [← HX.out, q])
        go_wp2
        go_ret
        exact ⟨⟨k, rfl, by rw [HT.out]; simp⟩, HB1.out⟩
      | false =>
        have HQ := hide q
        go_wp2
        go_roundw
        case rel => exact ⟨k + 1, by go_num, by omega, HB1.out, fun j hj hjk => by
                      by_cases e : j = k
                      · subst e; rw [← HX.out]; exact HQ.out
                      · exact HAL.out j hj (by omega)⟩
        case measure => simp [intOf]; omega
    · have HT : Hid (txSl L tx = false) := by unfold Hid; rw [HE.out]; exact any_no (fun i hi => HAL.out i hi (by omega))
      go_wp2
      go_ret
      exact ⟨⟨-1, rfl, by rw [HT.out]; rfl⟩, HB.out⟩
set_option maxRecDepth 20000 in
set_option maxHeartbeats 4000000 in
theorem containsK_any (lo : Nat) (v : Value) (L : List Rs) (tb : Nat) (tx : ByteArray) (w : World) (hv : RssAt lo w v L) (hb : w.cell? ⟨tb, 0, none⟩ = some (.string tx)) (hl : tb < w.heap.size) :
    Calls Tryz.prog 122 #[v, .func (.func 123) #[] #[.pointer (some ⟨tb, 0, none⟩)]] w fun e w' => e = .returned (.bool (txSl L tx)) ∧ Below w.heap.size w w' := by
  have HV := hide hv
  have HTB := hide hb
  obtain ⟨a, cap, rfl⟩ := hv.form
  clear hv hb
  go_enter Tryz.func122, Tryz.ntmps122
  go_wp2_with fail
  refine (indexK_any lo _ L tb tx _ HV.out HTB.out hl).mono ?_
  rintro e w' ⟨⟨r, rfl, hr⟩, hb'⟩
  have HR := hide hr
  have HB := hide hb'
  clear hr hb'
  go_wp2
  go_ret
  exact ⟨ret_bool HR.out, HB.out⟩
set_option maxRecDepth 20000 in
set_option maxHeartbeats 4000000 in
theorem knows_any (lo : Nat) (D : Rd) (a : Option Addr) (c : Nat) (tx : ByteArray) (w : World) (hv : RssAt lo w (.slice a D.sl.length c) D.sl) (h0 : 0 ≤ D.kn) (h1 : D.kn ≤ (D.sl.length : Int)) :
    Calls Tryz.prog 104 #[.agg #[.int .i64 D.pr, .int .i64 D.kn, .slice a D.sl.length c], .string tx] w fun e w' => e = .returned (.bool (txSl (D.sl.take D.kn.toNat) tx)) ∧ Below w.heap.size w w' := by
  have HV := hide hv
  have hcap : D.sl.length ≤ c := by
    rcases HV.out with ⟨_, _, h1, h2⟩ | ⟨_, _, _, h1, _, _, _, _, h6, _⟩
    · rw [h2]; simp
    · injection h1 with e1 e2 e3
      omega
  have hm := hv.max
  unfold maxLen at hm
  have r2 : D.kn ≤ (c : Int) := by omega
  have HDT : Hid (RssAt lo w (.slice a D.kn.toNat c) (D.sl.take D.kn.toNat)) := hv.takeR _ rfl (by omega)
  clear hv
  go_enter Tryz.func104, Tryz.ntmps104
  go_wp2_with fail
  obtain ⟨wz, hwz, FX, HB⟩ : ∃ wz, wz = (w.alloc (.cells #[.int .i64 D.pr, .int .i64 D.kn, .slice a D.sl.length c] 37)).alloc (.cells #[.string tx] 9) ∧ Hid (Box wz (w.heap.size + 1) #[.string tx]) ∧ Hid (Below w.heap.size w wz) :=
    ⟨_, rfl, Box.new _ _ _ _ (by simp), (one_al _ _).trans ((one_al _ _).mono (by simp))⟩
  rw [← hwz]
  clear hwz
  refine (containsK_any lo _ (D.sl.take D.kn.toNat) (w.heap.size + 1) tx _ (HDT.out.below HB.out) (FX.out.cell 0) FX.out.lt).mono ?_
  rintro e w1 ⟨rfl, hb⟩
  have HB1 := hide (bt HB.out hb)
  clear hb
  go_wp2
  go_ret
  exact ⟨rfl, HB1.out⟩
end Go.Proofs.YtlednecohppljaaGreat
