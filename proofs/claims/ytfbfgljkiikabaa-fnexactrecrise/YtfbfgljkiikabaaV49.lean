import Derived.Test.YtfbfgljkiikabaaV35
namespace Go.Proofs.Ytfbfgljkiikabaa
open Go.RowKit Go.Deep

def rrF (U : Rr) (b : Nat → Option Addr) (m : Nat → Nat) : List Value := rrL U (b 0) (m 0) (b 1) (m 1) (b 2) (m 2) (b 3) (m 3) (b 4) (m 4) (b 5) (m 5) (b 6) (m 6)
abbrev CpF (w : World) (lo : Nat) (c : Nat → Nat × Nat) (b : Nat → Option Addr) (m : Nat → Nat) (U : Rr) : Prop :=
  Cpn w lo c (.slice (b 0) U.sf.sl.length (m 0)) (.slice (b 1) U.dk.sl.length (m 1)) (.slice (b 2) U.he.length (m 2)) (.slice (b 3) U.wi.length (m 3)) (.slice (b 4) U.ye.length (m 4)) (.slice (b 5) U.be.length (m 5)) (.slice (b 6) U.ac.length (m 6)) U
/-- a recorder at work: its box γ, its lists in parts apart from γ and from the blocks K that are to be kept -/
structure Rw (K : Nat → Prop) (lo : Nat) (w : World) (γ : Nat) (b : Nat → Option Addr) (m : Nat → Nat) (c : Nat → Nat × Nat) (U : Rr) : Prop where
  box : Box w γ (rrF U b m).toArray
  cp : CpF w lo c b m U
  low : lo ≤ w.heap.size
  far : ∀ i, i < 7 → γ < (c i).1 ∨ (c i).2 ≤ γ
  prot : ∀ k, K k → k < w.heap.size ∧ k ≠ γ ∧ ∀ i, i < 7 → k < (c i).1 ∨ (c i).2 ≤ k
def Wr (K : Nat → Prop) (lo : Nat) (w : World) (γ : Nat) (U : Rr) : Prop := ∃ b m c, Rw K lo w γ b m c U
theorem Rw.shield {K K' : Nat → Prop} {lo : Nat} {w w' : World} {γ : Nat} {b : Nat → Option Addr} {m : Nat → Nat} {c : Nat → Nat × Nat} {U : Rr} (h : Rw K lo w γ b m c U) (hb : Below w.heap.size w w') (hk : ∀ k, K' k → K k ∨ (w.heap.size ≤ k ∧ k < w'.heap.size)) : Rw K' lo w' γ b m c U := by
  have hsz := hb.size
  refine ⟨h.box.on hb, h.cp.below hb, Nat.le_trans h.low hsz, h.far, fun k hk' => ?_⟩
  rcases hk k hk' with h1 | ⟨h1, h2⟩
  · have := h.prot k h1
    exact ⟨by omega, this.2⟩
  · refine ⟨h2, by have := h.box.lt; omega, fun i hi => Or.inr ?_⟩
    have := (h.cp.seg i hi).2
    omega
theorem Rw.on {K : Nat → Prop} {lo : Nat} {w w' : World} {γ : Nat} {b : Nat → Option Addr} {m : Nat → Nat} {c : Nat → Nat × Nat} {U : Rr} (h : Rw K lo w γ b m c U) (hb : Below w.heap.size w w') : Rw K lo w' γ b m c U := h.shield hb fun _ h => Or.inl h
theorem Wr.shield {K K' : Nat → Prop} {lo : Nat} {w w' : World} {γ : Nat} {U : Rr} (h : Wr K lo w γ U) (hb : Below w.heap.size w w') (hk : ∀ k, K' k → K k ∨ (w.heap.size ≤ k ∧ k < w'.heap.size)) : Wr K' lo w' γ U := by
  obtain ⟨b, m, c, h⟩ := h
  exact ⟨b, m, c, h.shield hb hk⟩
theorem Wr.less {K K' : Nat → Prop} {lo : Nat} {w : World} {γ : Nat} {U : Rr} (h : Wr K lo w γ U) (hk : ∀ k, K' k → K k) : Wr K' lo w γ U := h.shield (Below.refl _ _) fun k h => Or.inl (hk k h)
/-- a store into a block that is kept -/
theorem Rw.other {K : Nat → Prop} {lo : Nat} {w w' : World} {γ : Nat} {b : Nat → Option Addr} {m : Nat → Nat} {c : Nat → Nat × Nat} {U : Rr} (h : Rw K lo w γ b m c U) {β : Nat} (hβ : K β) (ht : Touch β (β + 1) w w') : Rw K lo w' γ b m c U := by
  have hp := h.prot β hβ
  have hsz := ht.size
  exact ⟨h.box.tch2 ht (by have := hp.2.1; omega), h.cp.touch ht (fun i hi => by have := hp.2.2 i hi; omega), Nat.le_trans h.low hsz, h.far, fun k hk => by have := h.prot k hk; exact ⟨by omega, this.2⟩⟩
/-- a scalar of the box -/
theorem Rw.scal {K : Nat → Prop} {lo : Nat} {w : World} {γ : Nat} {b : Nat → Option Addr} {m : Nat → Nat} {c : Nat → Nat × Nat} {U U' : Rr} (h : Rw K lo w γ b m c U) {j : Nat} {v : Value} (hj : j < (rrF U b m).toArray.size) (he : (rrF U b m).toArray.set j v hj = (rrF U' b m).toArray) (hc : ∀ W, CpF W lo c b m U → CpF W lo c b m U') :
    Rw K lo (w.setCell ⟨γ, j, none⟩ v) γ b m c U' ∧ Kept K w (w.setCell ⟨γ, j, none⟩ v) := by
  have ht : Touch γ (γ + 1) w (w.setCell ⟨γ, j, none⟩ v) := Touch.setCell _ _ _ _ _ ⟨Nat.le_refl _, Nat.lt_succ_self _⟩
  refine ⟨⟨by rw [← he]; exact h.box.set v hj, hc _ (h.cp.touch ht (fun i hi => by have := h.far i hi; omega)), Nat.le_trans h.low ht.size, h.far, fun k hk => ?_⟩, Kept.touch ht fun k hk => ?_⟩
  · have := h.prot k hk
    exact ⟨Nat.lt_of_lt_of_le this.1 ht.size, this.2⟩
  · have := h.prot k hk
    omega
theorem Rw.own {K : Nat → Prop} {lo : Nat} {w : World} {γ : Nat} {b : Nat → Option Addr} {m : Nat → Nat} {c : Nat → Nat × Nat} {U : Rr} (h : Rw K lo w γ b m c U) (hz : RrZ U) : RrOwn lo w.heap.size w (rrF U b m) U :=
  ⟨b 0, m 0, b 1, m 1, b 2, m 2, b 3, m 3, b 4, m 4, b 5, m 5, b 6, m 6, c, rfl, h.cp.own hz⟩
theorem Cpn.grow0 {w w' : World} {lo : Nat} {c : Nat → Nat × Nat} {v0 v1 v2 v3 v4 v5 v6 v' : Value} {U : Rr} {L' : List Rs} (h : Cpn w lo c v0 v1 v2 v3 v4 v5 v6 U) (ht : Touch (c 0).1 (c 0).2 w w') (hlo : lo ≤ w.heap.size) {p : Nat × Nat} (hp : p = c 0 ∨ (w.heap.size ≤ p.1 ∧ p.2 ≤ w'.heap.size)) (hr : NRow rsL 2 w' p.1 p.2 v' L') : Cpn w' lo (upd c 0 p) v' v1 v2 v3 v4 v5 v6 { U with sf := { U.sf with sl := L' } } := by
  have hsz := ht.size
  have hs0 := h.seg 0 (by decide)
  refine ⟨fun k hk => ?_, fun k j hk hj hne => ?_, hr, h.o1.touch ht (h.ap 1 0 (by decide) (by decide) (by decide)), (by obtain ⟨L2, h2, e2⟩ := h.o2; exact ⟨L2, h2.touch cloM ht (h.ap 2 0 (by decide) (by decide) (by decide)), e2⟩), h.o3.touch ht (h.ap 3 0 (by decide) (by decide) (by decide)), h.o4.touch ht (h.ap 4 0 (by decide) (by decide) (by decide)), h.o5.touch ht (h.ap 5 0 (by decide) (by decide) (by decide)), (by obtain ⟨L6, h6, e6⟩ := h.o6; exact ⟨L6, h6.touch cloA ht (h.ap 6 0 (by decide) (by decide) (by decide)), e6⟩)⟩
  · by_cases e : k = 0
    · subst e
      rw [upd_same]
      rcases hp with rfl | hp <;> omega
    · rw [upd_ne _ _ e]
      have := h.seg k hk
      omega
  · by_cases e : k = 0
    · subst e
      rw [upd_same, upd_ne _ _ (Ne.symm hne)]
      have := h.seg j hj
      rcases hp with rfl | hp
      · exact h.ap _ j hk hj hne
      · omega
    · rw [upd_ne _ _ e]
      by_cases e' : j = 0
      · subst e'
        rw [upd_same]
        have := h.seg k hk
        rcases hp with rfl | hp
        · exact h.ap k _ hk hj hne
        · omega
      · rw [upd_ne _ _ e']
        exact h.ap k j hk hj hne
theorem Rw.part0 {K : Nat → Prop} {lo : Nat} {w w' : World} {γ : Nat} {b : Nat → Option Addr} {m : Nat → Nat} {c : Nat → Nat × Nat} {U : Rr} {L' : List Rs} {a' : Option Addr} {m' : Nat} (h : Rw K lo w γ b m c U) (ht : Touch (c 0).1 (c 0).2 w w') {p : Nat × Nat} (hp : p = c 0 ∨ (w.heap.size ≤ p.1 ∧ p.2 ≤ w'.heap.size)) (hr : NRow rsL 2 w' p.1 p.2 (.slice a' L'.length m') L') :
    Rw K lo (w'.setCell ⟨γ, 5, none⟩ (.slice a' L'.length m')) γ (upd b 0 a') (upd m 0 m') (upd c 0 p) { U with sf := { U.sf with sl := L' } } ∧ Kept K w (w'.setCell ⟨γ, 5, none⟩ (.slice a' L'.length m')) := by
  have hsz := ht.size
  have ht2 : Touch γ (γ + 1) w' (w'.setCell ⟨γ, 5, none⟩ (.slice a' L'.length m')) := Touch.setCell _ _ _ _ _ ⟨Nat.le_refl _, Nat.lt_succ_self _⟩
  have hsz2 := ht2.size
  have hγ := h.box.lt
  have hfar : ∀ k, k < 7 → γ < (upd c 0 p k).1 ∨ (upd c 0 p k).2 ≤ γ := fun k hk => by
    by_cases e : k = 0
    · subst e
      rw [upd_same]
      rcases hp with rfl | hp
      · exact h.far _ hk
      · omega
    · rw [upd_ne _ _ e]
      exact h.far k hk
  refine ⟨⟨?_, ?_, by have := h.low; omega, hfar, fun k hk => ?_⟩, ?_⟩
  · have hb := (h.box.tch2 ht (h.far 0 (by decide))).set (k := 5) (.slice a' L'.length m') (by show 5 < 18; omega)
    exact hb
  · have hc := (Cpn.grow0 (v' := .slice a' L'.length m') h.cp ht h.low hp hr).touch ht2 (fun k hk => by have := hfar k hk; omega)
    exact hc
  · have := h.prot k hk
    refine ⟨by omega, this.2.1, fun j hj => ?_⟩
    by_cases e : j = 0
    · subst e
      rw [upd_same]
      rcases hp with rfl | hp
      · exact this.2.2 _ hj
      · omega
    · rw [upd_ne _ _ e]
      exact this.2.2 j hj
  · refine (Kept.touch ht fun k hk => ?_).trans (Kept.touch ht2 fun k hk => ?_)
    · have := h.prot k hk
      exact ⟨this.1, this.2.2 0 (by decide)⟩
    · have := h.prot k hk
      omega
theorem Cpn.grow1 {w w' : World} {lo : Nat} {c : Nat → Nat × Nat} {v0 v1 v2 v3 v4 v5 v6 v' : Value} {U : Rr} {L' : List Rs} (h : Cpn w lo c v0 v1 v2 v3 v4 v5 v6 U) (ht : Touch (c 1).1 (c 1).2 w w') (hlo : lo ≤ w.heap.size) {p : Nat × Nat} (hp : p = c 1 ∨ (w.heap.size ≤ p.1 ∧ p.2 ≤ w'.heap.size)) (hr : NRow rsL 2 w' p.1 p.2 v' L') : Cpn w' lo (upd c 1 p) v0 v' v2 v3 v4 v5 v6 { U with dk := { U.dk with sl := L' } } := by
  have hsz := ht.size
  have hs1 := h.seg 1 (by decide)
  refine ⟨fun k hk => ?_, fun k j hk hj hne => ?_, h.o0.touch ht (h.ap 0 1 (by decide) (by decide) (by decide)), hr, (by obtain ⟨L2, h2, e2⟩ := h.o2; exact ⟨L2, h2.touch cloM ht (h.ap 2 1 (by decide) (by decide) (by decide)), e2⟩), h.o3.touch ht (h.ap 3 1 (by decide) (by decide) (by decide)), h.o4.touch ht (h.ap 4 1 (by decide) (by decide) (by decide)), h.o5.touch ht (h.ap 5 1 (by decide) (by decide) (by decide)), (by obtain ⟨L6, h6, e6⟩ := h.o6; exact ⟨L6, h6.touch cloA ht (h.ap 6 1 (by decide) (by decide) (by decide)), e6⟩)⟩
  · by_cases e : k = 1
    · subst e
      rw [upd_same]
      rcases hp with rfl | hp <;> omega
    · rw [upd_ne _ _ e]
      have := h.seg k hk
      omega
  · by_cases e : k = 1
    · subst e
      rw [upd_same, upd_ne _ _ (Ne.symm hne)]
      have := h.seg j hj
      rcases hp with rfl | hp
      · exact h.ap _ j hk hj hne
      · omega
    · rw [upd_ne _ _ e]
      by_cases e' : j = 1
      · subst e'
        rw [upd_same]
        have := h.seg k hk
        rcases hp with rfl | hp
        · exact h.ap k _ hk hj hne
        · omega
      · rw [upd_ne _ _ e']
        exact h.ap k j hk hj hne
theorem Rw.part1 {K : Nat → Prop} {lo : Nat} {w w' : World} {γ : Nat} {b : Nat → Option Addr} {m : Nat → Nat} {c : Nat → Nat × Nat} {U : Rr} {L' : List Rs} {a' : Option Addr} {m' : Nat} (h : Rw K lo w γ b m c U) (ht : Touch (c 1).1 (c 1).2 w w') {p : Nat × Nat} (hp : p = c 1 ∨ (w.heap.size ≤ p.1 ∧ p.2 ≤ w'.heap.size)) (hr : NRow rsL 2 w' p.1 p.2 (.slice a' L'.length m') L') :
    Rw K lo (w'.setCell ⟨γ, 8, none⟩ (.slice a' L'.length m')) γ (upd b 1 a') (upd m 1 m') (upd c 1 p) { U with dk := { U.dk with sl := L' } } ∧ Kept K w (w'.setCell ⟨γ, 8, none⟩ (.slice a' L'.length m')) := by
  have hsz := ht.size
  have ht2 : Touch γ (γ + 1) w' (w'.setCell ⟨γ, 8, none⟩ (.slice a' L'.length m')) := Touch.setCell _ _ _ _ _ ⟨Nat.le_refl _, Nat.lt_succ_self _⟩
  have hsz2 := ht2.size
  have hγ := h.box.lt
  have hfar : ∀ k, k < 7 → γ < (upd c 1 p k).1 ∨ (upd c 1 p k).2 ≤ γ := fun k hk => by
    by_cases e : k = 1
    · subst e
      rw [upd_same]
      rcases hp with rfl | hp
      · exact h.far _ hk
      · omega
    · rw [upd_ne _ _ e]
      exact h.far k hk
  refine ⟨⟨?_, ?_, by have := h.low; omega, hfar, fun k hk => ?_⟩, ?_⟩
  · have hb := (h.box.tch2 ht (h.far 1 (by decide))).set (k := 8) (.slice a' L'.length m') (by show 8 < 18; omega)
    exact hb
  · have hc := (Cpn.grow1 (v' := .slice a' L'.length m') h.cp ht h.low hp hr).touch ht2 (fun k hk => by have := hfar k hk; omega)
    exact hc
  · have := h.prot k hk
    refine ⟨by omega, this.2.1, fun j hj => ?_⟩
    by_cases e : j = 1
    · subst e
      rw [upd_same]
      rcases hp with rfl | hp
      · exact this.2.2 _ hj
      · omega
    · rw [upd_ne _ _ e]
      exact this.2.2 j hj
  · refine (Kept.touch ht fun k hk => ?_).trans (Kept.touch ht2 fun k hk => ?_)
    · have := h.prot k hk
      exact ⟨this.1, this.2.2 1 (by decide)⟩
    · have := h.prot k hk
      omega
theorem Cpn.grow2 {w w' : World} {lo : Nat} {c : Nat → Nat × Nat} {v0 v1 v2 v3 v4 v5 v6 v' : Value} {U : Rr} {L' : List Rm} (h : Cpn w lo c v0 v1 v2 v3 v4 v5 v6 U) (ht : Touch (c 2).1 (c 2).2 w w') (hlo : lo ≤ w.heap.size) {p : Nat × Nat} (hp : p = c 2 ∨ (w.heap.size ≤ p.1 ∧ p.2 ≤ w'.heap.size)) (hr : (∃ L, NGRow PM mxL 8 w' p.1 p.2 v' L ∧ L.map (·.1) = L')) : Cpn w' lo (upd c 2 p) v0 v1 v' v3 v4 v5 v6 { U with he := L' } := by
  have hsz := ht.size
  have hs2 := h.seg 2 (by decide)
  refine ⟨fun k hk => ?_, fun k j hk hj hne => ?_, h.o0.touch ht (h.ap 0 2 (by decide) (by decide) (by decide)), h.o1.touch ht (h.ap 1 2 (by decide) (by decide) (by decide)), hr, h.o3.touch ht (h.ap 3 2 (by decide) (by decide) (by decide)), h.o4.touch ht (h.ap 4 2 (by decide) (by decide) (by decide)), h.o5.touch ht (h.ap 5 2 (by decide) (by decide) (by decide)), (by obtain ⟨L6, h6, e6⟩ := h.o6; exact ⟨L6, h6.touch cloA ht (h.ap 6 2 (by decide) (by decide) (by decide)), e6⟩)⟩
  · by_cases e : k = 2
    · subst e
      rw [upd_same]
      rcases hp with rfl | hp <;> omega
    · rw [upd_ne _ _ e]
      have := h.seg k hk
      omega
  · by_cases e : k = 2
    · subst e
      rw [upd_same, upd_ne _ _ (Ne.symm hne)]
      have := h.seg j hj
      rcases hp with rfl | hp
      · exact h.ap _ j hk hj hne
      · omega
    · rw [upd_ne _ _ e]
      by_cases e' : j = 2
      · subst e'
        rw [upd_same]
        have := h.seg k hk
        rcases hp with rfl | hp
        · exact h.ap k _ hk hj hne
        · omega
      · rw [upd_ne _ _ e']
        exact h.ap k j hk hj hne
theorem Rw.part2 {K : Nat → Prop} {lo : Nat} {w w' : World} {γ : Nat} {b : Nat → Option Addr} {m : Nat → Nat} {c : Nat → Nat × Nat} {U : Rr} {L' : List Rm} {a' : Option Addr} {m' : Nat} (h : Rw K lo w γ b m c U) (ht : Touch (c 2).1 (c 2).2 w w') {p : Nat × Nat} (hp : p = c 2 ∨ (w.heap.size ≤ p.1 ∧ p.2 ≤ w'.heap.size)) (hr : (∃ L, NGRow PM mxL 8 w' p.1 p.2 (.slice a' L'.length m') L ∧ L.map (·.1) = L')) :
    Rw K lo (w'.setCell ⟨γ, 9, none⟩ (.slice a' L'.length m')) γ (upd b 2 a') (upd m 2 m') (upd c 2 p) { U with he := L' } ∧ Kept K w (w'.setCell ⟨γ, 9, none⟩ (.slice a' L'.length m')) := by
  have hsz := ht.size
  have ht2 : Touch γ (γ + 1) w' (w'.setCell ⟨γ, 9, none⟩ (.slice a' L'.length m')) := Touch.setCell _ _ _ _ _ ⟨Nat.le_refl _, Nat.lt_succ_self _⟩
  have hsz2 := ht2.size
  have hγ := h.box.lt
  have hfar : ∀ k, k < 7 → γ < (upd c 2 p k).1 ∨ (upd c 2 p k).2 ≤ γ := fun k hk => by
    by_cases e : k = 2
    · subst e
      rw [upd_same]
      rcases hp with rfl | hp
      · exact h.far _ hk
      · omega
    · rw [upd_ne _ _ e]
      exact h.far k hk
  refine ⟨⟨?_, ?_, by have := h.low; omega, hfar, fun k hk => ?_⟩, ?_⟩
  · have hb := (h.box.tch2 ht (h.far 2 (by decide))).set (k := 9) (.slice a' L'.length m') (by show 9 < 18; omega)
    exact hb
  · have hc := (Cpn.grow2 (v' := .slice a' L'.length m') h.cp ht h.low hp hr).touch ht2 (fun k hk => by have := hfar k hk; omega)
    exact hc
  · have := h.prot k hk
    refine ⟨by omega, this.2.1, fun j hj => ?_⟩
    by_cases e : j = 2
    · subst e
      rw [upd_same]
      rcases hp with rfl | hp
      · exact this.2.2 _ hj
      · omega
    · rw [upd_ne _ _ e]
      exact this.2.2 j hj
  · refine (Kept.touch ht fun k hk => ?_).trans (Kept.touch ht2 fun k hk => ?_)
    · have := h.prot k hk
      exact ⟨this.1, this.2.2 2 (by decide)⟩
    · have := h.prot k hk
      omega
theorem Cpn.grow3 {w w' : World} {lo : Nat} {c : Nat → Nat × Nat} {v0 v1 v2 v3 v4 v5 v6 v' : Value} {U : Rr} {L' : List ByteArray} (h : Cpn w lo c v0 v1 v2 v3 v4 v5 v6 U) (ht : Touch (c 3).1 (c 3).2 w w') (hlo : lo ≤ w.heap.size) {p : Nat × Nat} (hp : p = c 3 ∨ (w.heap.size ≤ p.1 ∧ p.2 ≤ w'.heap.size)) (hr : NRow tyL 1 w' p.1 p.2 v' L') : Cpn w' lo (upd c 3 p) v0 v1 v2 v' v4 v5 v6 { U with wi := L' } := by
  have hsz := ht.size
  have hs3 := h.seg 3 (by decide)
  refine ⟨fun k hk => ?_, fun k j hk hj hne => ?_, h.o0.touch ht (h.ap 0 3 (by decide) (by decide) (by decide)), h.o1.touch ht (h.ap 1 3 (by decide) (by decide) (by decide)), (by obtain ⟨L2, h2, e2⟩ := h.o2; exact ⟨L2, h2.touch cloM ht (h.ap 2 3 (by decide) (by decide) (by decide)), e2⟩), hr, h.o4.touch ht (h.ap 4 3 (by decide) (by decide) (by decide)), h.o5.touch ht (h.ap 5 3 (by decide) (by decide) (by decide)), (by obtain ⟨L6, h6, e6⟩ := h.o6; exact ⟨L6, h6.touch cloA ht (h.ap 6 3 (by decide) (by decide) (by decide)), e6⟩)⟩
  · by_cases e : k = 3
    · subst e
      rw [upd_same]
      rcases hp with rfl | hp <;> omega
    · rw [upd_ne _ _ e]
      have := h.seg k hk
      omega
  · by_cases e : k = 3
    · subst e
      rw [upd_same, upd_ne _ _ (Ne.symm hne)]
      have := h.seg j hj
      rcases hp with rfl | hp
      · exact h.ap _ j hk hj hne
      · omega
    · rw [upd_ne _ _ e]
      by_cases e' : j = 3
      · subst e'
        rw [upd_same]
        have := h.seg k hk
        rcases hp with rfl | hp
        · exact h.ap k _ hk hj hne
        · omega
      · rw [upd_ne _ _ e']
        exact h.ap k j hk hj hne
theorem Rw.part3 {K : Nat → Prop} {lo : Nat} {w w' : World} {γ : Nat} {b : Nat → Option Addr} {m : Nat → Nat} {c : Nat → Nat × Nat} {U : Rr} {L' : List ByteArray} {a' : Option Addr} {m' : Nat} (h : Rw K lo w γ b m c U) (ht : Touch (c 3).1 (c 3).2 w w') {p : Nat × Nat} (hp : p = c 3 ∨ (w.heap.size ≤ p.1 ∧ p.2 ≤ w'.heap.size)) (hr : NRow tyL 1 w' p.1 p.2 (.slice a' L'.length m') L') :
    Rw K lo (w'.setCell ⟨γ, 10, none⟩ (.slice a' L'.length m')) γ (upd b 3 a') (upd m 3 m') (upd c 3 p) { U with wi := L' } ∧ Kept K w (w'.setCell ⟨γ, 10, none⟩ (.slice a' L'.length m')) := by
  have hsz := ht.size
  have ht2 : Touch γ (γ + 1) w' (w'.setCell ⟨γ, 10, none⟩ (.slice a' L'.length m')) := Touch.setCell _ _ _ _ _ ⟨Nat.le_refl _, Nat.lt_succ_self _⟩
  have hsz2 := ht2.size
  have hγ := h.box.lt
  have hfar : ∀ k, k < 7 → γ < (upd c 3 p k).1 ∨ (upd c 3 p k).2 ≤ γ := fun k hk => by
    by_cases e : k = 3
    · subst e
      rw [upd_same]
      rcases hp with rfl | hp
      · exact h.far _ hk
      · omega
    · rw [upd_ne _ _ e]
      exact h.far k hk
  refine ⟨⟨?_, ?_, by have := h.low; omega, hfar, fun k hk => ?_⟩, ?_⟩
  · have hb := (h.box.tch2 ht (h.far 3 (by decide))).set (k := 10) (.slice a' L'.length m') (by show 10 < 18; omega)
    exact hb
  · have hc := (Cpn.grow3 (v' := .slice a' L'.length m') h.cp ht h.low hp hr).touch ht2 (fun k hk => by have := hfar k hk; omega)
    exact hc
  · have := h.prot k hk
    refine ⟨by omega, this.2.1, fun j hj => ?_⟩
    by_cases e : j = 3
    · subst e
      rw [upd_same]
      rcases hp with rfl | hp
      · exact this.2.2 _ hj
      · omega
    · rw [upd_ne _ _ e]
      exact this.2.2 j hj
  · refine (Kept.touch ht fun k hk => ?_).trans (Kept.touch ht2 fun k hk => ?_)
    · have := h.prot k hk
      exact ⟨this.1, this.2.2 3 (by decide)⟩
    · have := h.prot k hk
      omega
theorem Cpn.grow4 {w w' : World} {lo : Nat} {c : Nat → Nat × Nat} {v0 v1 v2 v3 v4 v5 v6 v' : Value} {U : Rr} {L' : List Int} (h : Cpn w lo c v0 v1 v2 v3 v4 v5 v6 U) (ht : Touch (c 4).1 (c 4).2 w w') (hlo : lo ≤ w.heap.size) {p : Nat × Nat} (hp : p = c 4 ∨ (w.heap.size ≤ p.1 ∧ p.2 ≤ w'.heap.size)) (hr : NRow inL 1 w' p.1 p.2 v' L') : Cpn w' lo (upd c 4 p) v0 v1 v2 v3 v' v5 v6 { U with ye := L' } := by
  have hsz := ht.size
  have hs4 := h.seg 4 (by decide)
  refine ⟨fun k hk => ?_, fun k j hk hj hne => ?_, h.o0.touch ht (h.ap 0 4 (by decide) (by decide) (by decide)), h.o1.touch ht (h.ap 1 4 (by decide) (by decide) (by decide)), (by obtain ⟨L2, h2, e2⟩ := h.o2; exact ⟨L2, h2.touch cloM ht (h.ap 2 4 (by decide) (by decide) (by decide)), e2⟩), h.o3.touch ht (h.ap 3 4 (by decide) (by decide) (by decide)), hr, h.o5.touch ht (h.ap 5 4 (by decide) (by decide) (by decide)), (by obtain ⟨L6, h6, e6⟩ := h.o6; exact ⟨L6, h6.touch cloA ht (h.ap 6 4 (by decide) (by decide) (by decide)), e6⟩)⟩
  · by_cases e : k = 4
    · subst e
      rw [upd_same]
      rcases hp with rfl | hp <;> omega
    · rw [upd_ne _ _ e]
      have := h.seg k hk
      omega
  · by_cases e : k = 4
    · subst e
      rw [upd_same, upd_ne _ _ (Ne.symm hne)]
      have := h.seg j hj
      rcases hp with rfl | hp
      · exact h.ap _ j hk hj hne
      · omega
    · rw [upd_ne _ _ e]
      by_cases e' : j = 4
      · subst e'
        rw [upd_same]
        have := h.seg k hk
        rcases hp with rfl | hp
        · exact h.ap k _ hk hj hne
        · omega
      · rw [upd_ne _ _ e']
        exact h.ap k j hk hj hne
theorem Rw.part4 {K : Nat → Prop} {lo : Nat} {w w' : World} {γ : Nat} {b : Nat → Option Addr} {m : Nat → Nat} {c : Nat → Nat × Nat} {U : Rr} {L' : List Int} {a' : Option Addr} {m' : Nat} (h : Rw K lo w γ b m c U) (ht : Touch (c 4).1 (c 4).2 w w') {p : Nat × Nat} (hp : p = c 4 ∨ (w.heap.size ≤ p.1 ∧ p.2 ≤ w'.heap.size)) (hr : NRow inL 1 w' p.1 p.2 (.slice a' L'.length m') L') :
    Rw K lo (w'.setCell ⟨γ, 14, none⟩ (.slice a' L'.length m')) γ (upd b 4 a') (upd m 4 m') (upd c 4 p) { U with ye := L' } ∧ Kept K w (w'.setCell ⟨γ, 14, none⟩ (.slice a' L'.length m')) := by
  have hsz := ht.size
  have ht2 : Touch γ (γ + 1) w' (w'.setCell ⟨γ, 14, none⟩ (.slice a' L'.length m')) := Touch.setCell _ _ _ _ _ ⟨Nat.le_refl _, Nat.lt_succ_self _⟩
  have hsz2 := ht2.size
  have hγ := h.box.lt
  have hfar : ∀ k, k < 7 → γ < (upd c 4 p k).1 ∨ (upd c 4 p k).2 ≤ γ := fun k hk => by
    by_cases e : k = 4
    · subst e
      rw [upd_same]
      rcases hp with rfl | hp
      · exact h.far _ hk
      · omega
    · rw [upd_ne _ _ e]
      exact h.far k hk
  refine ⟨⟨?_, ?_, by have := h.low; omega, hfar, fun k hk => ?_⟩, ?_⟩
  · have hb := (h.box.tch2 ht (h.far 4 (by decide))).set (k := 14) (.slice a' L'.length m') (by show 14 < 18; omega)
    exact hb
  · have hc := (Cpn.grow4 (v' := .slice a' L'.length m') h.cp ht h.low hp hr).touch ht2 (fun k hk => by have := hfar k hk; omega)
    exact hc
  · have := h.prot k hk
    refine ⟨by omega, this.2.1, fun j hj => ?_⟩
    by_cases e : j = 4
    · subst e
      rw [upd_same]
      rcases hp with rfl | hp
      · exact this.2.2 _ hj
      · omega
    · rw [upd_ne _ _ e]
      exact this.2.2 j hj
  · refine (Kept.touch ht fun k hk => ?_).trans (Kept.touch ht2 fun k hk => ?_)
    · have := h.prot k hk
      exact ⟨this.1, this.2.2 4 (by decide)⟩
    · have := h.prot k hk
      omega
theorem Cpn.grow5 {w w' : World} {lo : Nat} {c : Nat → Nat × Nat} {v0 v1 v2 v3 v4 v5 v6 v' : Value} {U : Rr} {L' : List Rs} (h : Cpn w lo c v0 v1 v2 v3 v4 v5 v6 U) (ht : Touch (c 5).1 (c 5).2 w w') (hlo : lo ≤ w.heap.size) {p : Nat × Nat} (hp : p = c 5 ∨ (w.heap.size ≤ p.1 ∧ p.2 ≤ w'.heap.size)) (hr : NRow rsL 2 w' p.1 p.2 v' L') : Cpn w' lo (upd c 5 p) v0 v1 v2 v3 v4 v' v6 { U with be := L' } := by
  have hsz := ht.size
  have hs5 := h.seg 5 (by decide)
  refine ⟨fun k hk => ?_, fun k j hk hj hne => ?_, h.o0.touch ht (h.ap 0 5 (by decide) (by decide) (by decide)), h.o1.touch ht (h.ap 1 5 (by decide) (by decide) (by decide)), (by obtain ⟨L2, h2, e2⟩ := h.o2; exact ⟨L2, h2.touch cloM ht (h.ap 2 5 (by decide) (by decide) (by decide)), e2⟩), h.o3.touch ht (h.ap 3 5 (by decide) (by decide) (by decide)), h.o4.touch ht (h.ap 4 5 (by decide) (by decide) (by decide)), hr, (by obtain ⟨L6, h6, e6⟩ := h.o6; exact ⟨L6, h6.touch cloA ht (h.ap 6 5 (by decide) (by decide) (by decide)), e6⟩)⟩
  · by_cases e : k = 5
    · subst e
      rw [upd_same]
      rcases hp with rfl | hp <;> omega
    · rw [upd_ne _ _ e]
      have := h.seg k hk
      omega
  · by_cases e : k = 5
    · subst e
      rw [upd_same, upd_ne _ _ (Ne.symm hne)]
      have := h.seg j hj
      rcases hp with rfl | hp
      · exact h.ap _ j hk hj hne
      · omega
    · rw [upd_ne _ _ e]
      by_cases e' : j = 5
      · subst e'
        rw [upd_same]
        have := h.seg k hk
        rcases hp with rfl | hp
        · exact h.ap k _ hk hj hne
        · omega
      · rw [upd_ne _ _ e']
        exact h.ap k j hk hj hne
theorem Rw.part5 {K : Nat → Prop} {lo : Nat} {w w' : World} {γ : Nat} {b : Nat → Option Addr} {m : Nat → Nat} {c : Nat → Nat × Nat} {U : Rr} {L' : List Rs} {a' : Option Addr} {m' : Nat} (h : Rw K lo w γ b m c U) (ht : Touch (c 5).1 (c 5).2 w w') {p : Nat × Nat} (hp : p = c 5 ∨ (w.heap.size ≤ p.1 ∧ p.2 ≤ w'.heap.size)) (hr : NRow rsL 2 w' p.1 p.2 (.slice a' L'.length m') L') :
    Rw K lo (w'.setCell ⟨γ, 15, none⟩ (.slice a' L'.length m')) γ (upd b 5 a') (upd m 5 m') (upd c 5 p) { U with be := L' } ∧ Kept K w (w'.setCell ⟨γ, 15, none⟩ (.slice a' L'.length m')) := by
  have hsz := ht.size
  have ht2 : Touch γ (γ + 1) w' (w'.setCell ⟨γ, 15, none⟩ (.slice a' L'.length m')) := Touch.setCell _ _ _ _ _ ⟨Nat.le_refl _, Nat.lt_succ_self _⟩
  have hsz2 := ht2.size
  have hγ := h.box.lt
  have hfar : ∀ k, k < 7 → γ < (upd c 5 p k).1 ∨ (upd c 5 p k).2 ≤ γ := fun k hk => by
    by_cases e : k = 5
    · subst e
      rw [upd_same]
      rcases hp with rfl | hp
      · exact h.far _ hk
      · omega
    · rw [upd_ne _ _ e]
      exact h.far k hk
  refine ⟨⟨?_, ?_, by have := h.low; omega, hfar, fun k hk => ?_⟩, ?_⟩
  · have hb := (h.box.tch2 ht (h.far 5 (by decide))).set (k := 15) (.slice a' L'.length m') (by show 15 < 18; omega)
    exact hb
  · have hc := (Cpn.grow5 (v' := .slice a' L'.length m') h.cp ht h.low hp hr).touch ht2 (fun k hk => by have := hfar k hk; omega)
    exact hc
  · have := h.prot k hk
    refine ⟨by omega, this.2.1, fun j hj => ?_⟩
    by_cases e : j = 5
    · subst e
      rw [upd_same]
      rcases hp with rfl | hp
      · exact this.2.2 _ hj
      · omega
    · rw [upd_ne _ _ e]
      exact this.2.2 j hj
  · refine (Kept.touch ht fun k hk => ?_).trans (Kept.touch ht2 fun k hk => ?_)
    · have := h.prot k hk
      exact ⟨this.1, this.2.2 5 (by decide)⟩
    · have := h.prot k hk
      omega
theorem Cpn.grow6 {w w' : World} {lo : Nat} {c : Nat → Nat × Nat} {v0 v1 v2 v3 v4 v5 v6 v' : Value} {U : Rr} {L' : List Ra} (h : Cpn w lo c v0 v1 v2 v3 v4 v5 v6 U) (ht : Touch (c 6).1 (c 6).2 w w') (hlo : lo ≤ w.heap.size) {p : Nat × Nat} (hp : p = c 6 ∨ (w.heap.size ≤ p.1 ∧ p.2 ≤ w'.heap.size)) (hr : (∃ L, NGRow PA axL 2 w' p.1 p.2 v' L ∧ L.map (·.1) = L')) : Cpn w' lo (upd c 6 p) v0 v1 v2 v3 v4 v5 v' { U with ac := L' } := by
  have hsz := ht.size
  have hs6 := h.seg 6 (by decide)
  refine ⟨fun k hk => ?_, fun k j hk hj hne => ?_, h.o0.touch ht (h.ap 0 6 (by decide) (by decide) (by decide)), h.o1.touch ht (h.ap 1 6 (by decide) (by decide) (by decide)), (by obtain ⟨L2, h2, e2⟩ := h.o2; exact ⟨L2, h2.touch cloM ht (h.ap 2 6 (by decide) (by decide) (by decide)), e2⟩), h.o3.touch ht (h.ap 3 6 (by decide) (by decide) (by decide)), h.o4.touch ht (h.ap 4 6 (by decide) (by decide) (by decide)), h.o5.touch ht (h.ap 5 6 (by decide) (by decide) (by decide)), hr⟩
  · by_cases e : k = 6
    · subst e
      rw [upd_same]
      rcases hp with rfl | hp <;> omega
    · rw [upd_ne _ _ e]
      have := h.seg k hk
      omega
  · by_cases e : k = 6
    · subst e
      rw [upd_same, upd_ne _ _ (Ne.symm hne)]
      have := h.seg j hj
      rcases hp with rfl | hp
      · exact h.ap _ j hk hj hne
      · omega
    · rw [upd_ne _ _ e]
      by_cases e' : j = 6
      · subst e'
        rw [upd_same]
        have := h.seg k hk
        rcases hp with rfl | hp
        · exact h.ap k _ hk hj hne
        · omega
      · rw [upd_ne _ _ e']
        exact h.ap k j hk hj hne
theorem Rw.part6 {K : Nat → Prop} {lo : Nat} {w w' : World} {γ : Nat} {b : Nat → Option Addr} {m : Nat → Nat} {c : Nat → Nat × Nat} {U : Rr} {L' : List Ra} {a' : Option Addr} {m' : Nat} (h : Rw K lo w γ b m c U) (ht : Touch (c 6).1 (c 6).2 w w') {p : Nat × Nat} (hp : p = c 6 ∨ (w.heap.size ≤ p.1 ∧ p.2 ≤ w'.heap.size)) (hr : (∃ L, NGRow PA axL 2 w' p.1 p.2 (.slice a' L'.length m') L ∧ L.map (·.1) = L')) :
    Rw K lo (w'.setCell ⟨γ, 16, none⟩ (.slice a' L'.length m')) γ (upd b 6 a') (upd m 6 m') (upd c 6 p) { U with ac := L' } ∧ Kept K w (w'.setCell ⟨γ, 16, none⟩ (.slice a' L'.length m')) := by
  have hsz := ht.size
  have ht2 : Touch γ (γ + 1) w' (w'.setCell ⟨γ, 16, none⟩ (.slice a' L'.length m')) := Touch.setCell _ _ _ _ _ ⟨Nat.le_refl _, Nat.lt_succ_self _⟩
  have hsz2 := ht2.size
  have hγ := h.box.lt
  have hfar : ∀ k, k < 7 → γ < (upd c 6 p k).1 ∨ (upd c 6 p k).2 ≤ γ := fun k hk => by
    by_cases e : k = 6
    · subst e
      rw [upd_same]
      rcases hp with rfl | hp
      · exact h.far _ hk
      · omega
    · rw [upd_ne _ _ e]
      exact h.far k hk
  refine ⟨⟨?_, ?_, by have := h.low; omega, hfar, fun k hk => ?_⟩, ?_⟩
  · have hb := (h.box.tch2 ht (h.far 6 (by decide))).set (k := 16) (.slice a' L'.length m') (by show 16 < 18; omega)
    exact hb
  · have hc := (Cpn.grow6 (v' := .slice a' L'.length m') h.cp ht h.low hp hr).touch ht2 (fun k hk => by have := hfar k hk; omega)
    exact hc
  · have := h.prot k hk
    refine ⟨by omega, this.2.1, fun j hj => ?_⟩
    by_cases e : j = 6
    · subst e
      rw [upd_same]
      rcases hp with rfl | hp
      · exact this.2.2 _ hj
      · omega
    · rw [upd_ne _ _ e]
      exact this.2.2 j hj
  · refine (Kept.touch ht fun k hk => ?_).trans (Kept.touch ht2 fun k hk => ?_)
    · have := h.prot k hk
      exact ⟨this.1, this.2.2 6 (by decide)⟩
    · have := h.prot k hk
      omega
end Go.Proofs.Ytfbfgljkiikabaa
namespace Go.Proofs.Ytfbfgljkiikabaa
open Go.ChangeShapes Go.WideShapes Go.ChangeAt Go.RowKit Go.Deep
theorem Try.cells29 : Try.prog.cellsOf 29 = 1 := by kernel_rfl
section
variable {H : Type} {enc : TypeId × Value → H} {W : World}
set_option maxRecDepth 100000 in
theorem open_Ris {fuel : Nat} {c : Value} {x : DataW H × List MemPlace} (h : DataW.trod enc Try.prog W 0 (fun _ => true) true fuel 29 [c] = some x) : ∃ Xl, RisAt 0 W c Xl := by
  rcases open_slice Try.underlying29 h with ⟨hcs, _⟩ | ⟨a, len, cap, m, n, D, Pl, hcs, _, hl, hm, hmm, _, hx⟩
  · simp only [List.cons.injEq, and_true] at hcs
    exact ⟨[], Or.inl ⟨_, _, hcs, rfl⟩⟩
  · simp only [List.cons.injEq, and_true] at hcs
    simp only [if_true] at hmm
    subst hmm
    rw [Try.cells3] at hx
    by_cases h0 : len = 0
    · subst h0
      exact ⟨[], Or.inl ⟨_, _, hcs, rfl⟩⟩
    · obtain ⟨Xl, hF, hall⟩ := choose_list (p := fun i (x : Int) => RiSize x ∧ W.cells? 0 (a.add (i * 1)) 1 = some [.int .i64 x]) len (fun i hi => by
        obtain ⟨cs', h1, h2⟩ := hx i (by omega)
        obtain ⟨q1, e1, _, s1⟩ := DataW.trod_int Try.underlying3 h2
        rw [e1] at h1
        exact ⟨q1, rfl, h1⟩)
      obtain ⟨b, off, spot⟩ := a
      have hspot : spot = none := by
        obtain ⟨_, h1⟩ := hall 0 (by omega)
        have := (World.cells?_some h1).2.2 0 (by omega)
        rw [Nat.zero_mul] at this
        have e0 : ((⟨b, off, spot⟩ : Addr).add 0).add 0 = ⟨b, off, spot⟩ := by simp [Addr.add]
        rw [e0] at this
        simpa using World.cell?_spot (by simpa using this)
      subst hspot
      have hcell : ∀ i (hi : i < Xl.length), W.cells? 0 ((⟨b, off, none⟩ : Addr).add (i * 1)) 1 = some [.int .i64 Xl[i]] → W.cell? ⟨b, off + i, none⟩ = some (.int .i64 Xl[i]) := fun i hi h1 => by
        obtain ⟨_, _, hc⟩ := World.cells?_some h1
        rw [add_plain, Nat.mul_one] at hc
        have q := (add_plain b (off + i) 0) ▸ hc 0 (by omega)
        simpa using q
      have hbw : b < W.heap.size := by
        obtain ⟨_, h1⟩ := hall 0 (by omega)
        exact World.block_lt_of_cell? W _ (hcell 0 (by omega) h1)
      refine ⟨Xl, Or.inr ⟨b, off, m, by rw [hcs, hF], ?_, by omega, hbw, Nat.zero_le _, by omega, fun i hi => ?_⟩⟩
      · intro e; rw [e] at hF; simp at hF; omega
      · obtain ⟨hz, h1⟩ := hall i hi
        exact ⟨hz, hcell i hi h1⟩
end
theorem Try.cells28 : Try.prog.cellsOf 28 = 1 := by kernel_rfl
section
variable {H : Type} {enc : TypeId × Value → H} {W : World}
set_option maxRecDepth 100000 in
theorem open_Rts {fuel : Nat} {c : Value} {x : DataW H × List MemPlace} (h : DataW.trod enc Try.prog W 0 (fun _ => true) true fuel 28 [c] = some x) : ∃ Xl, RtsAt 0 W c Xl := by
  rcases open_slice Try.underlying28 h with ⟨hcs, _⟩ | ⟨a, len, cap, m, n, D, Pl, hcs, _, hl, hm, hmm, _, hx⟩
  · simp only [List.cons.injEq, and_true] at hcs
    exact ⟨[], Or.inl ⟨_, _, hcs, rfl⟩⟩
  · simp only [List.cons.injEq, and_true] at hcs
    simp only [if_true] at hmm
    subst hmm
    rw [Try.cells9] at hx
    by_cases h0 : len = 0
    · subst h0
      exact ⟨[], Or.inl ⟨_, _, hcs, rfl⟩⟩
    · obtain ⟨Xl, hF, hall⟩ := choose_list (p := fun i (x : ByteArray) => RtSize x ∧ W.cells? 0 (a.add (i * 1)) 1 = some [.string x]) len (fun i hi => by
        obtain ⟨cs', h1, h2⟩ := hx i (by omega)
        obtain ⟨q1, e1, _, s1⟩ := DataW.trod_string Try.underlying9 h2
        rw [e1] at h1
        exact ⟨q1, s1, h1⟩)
      obtain ⟨b, off, spot⟩ := a
      have hspot : spot = none := by
        obtain ⟨_, h1⟩ := hall 0 (by omega)
        have := (World.cells?_some h1).2.2 0 (by omega)
        rw [Nat.zero_mul] at this
        have e0 : ((⟨b, off, spot⟩ : Addr).add 0).add 0 = ⟨b, off, spot⟩ := by simp [Addr.add]
        rw [e0] at this
        simpa using World.cell?_spot (by simpa using this)
      subst hspot
      have hcell : ∀ i (hi : i < Xl.length), W.cells? 0 ((⟨b, off, none⟩ : Addr).add (i * 1)) 1 = some [.string Xl[i]] → W.cell? ⟨b, off + i, none⟩ = some (.string Xl[i]) := fun i hi h1 => by
        obtain ⟨_, _, hc⟩ := World.cells?_some h1
        rw [add_plain, Nat.mul_one] at hc
        have q := (add_plain b (off + i) 0) ▸ hc 0 (by omega)
        simpa using q
      have hbw : b < W.heap.size := by
        obtain ⟨_, h1⟩ := hall 0 (by omega)
        exact World.block_lt_of_cell? W _ (hcell 0 (by omega) h1)
      refine ⟨Xl, Or.inr ⟨b, off, m, by rw [hcs, hF], ?_, by omega, hbw, Nat.zero_le _, by omega, fun i hi => ?_⟩⟩
      · intro e; rw [e] at hF; simp at hF; omega
      · obtain ⟨hz, h1⟩ := hall i hi
        exact ⟨hz, hcell i hi h1⟩
end
theorem Try.cells87 : Try.prog.cellsOf 87 = 2 := by kernel_rfl
theorem lstRa {l : List Value} (h : l.length = 2) : ∃ c0 c1, l = [c0, c1] := by
  match l, h with
  | [c0, c1], _ => exact ⟨c0, c1, rfl⟩
section
variable {H : Type} {enc : TypeId × Value → H} {W : World}
set_option maxRecDepth 100000 in
theorem open_Ra0 {fuel : Nat} {cs : List Value} {x : DataW H × List MemPlace} (h : DataW.trod enc Try.prog W 0 (fun _ => true) true fuel 87 cs = some x) : ∃ U, RaC 0 W cs U := by
  obtain ⟨xs, n, _, _, hl, hlen, hfld⟩ := DataW.trod_struct Try.underlying87 h
  obtain ⟨c0, c1, rfl⟩ := lstRa (hl.trans Try.cells87)
  simp only [Array.size, List.length_cons, List.length_nil] at hlen
  have g0 : DataW.trod enc Try.prog W 0 (fun _ => true) true n 3 ((([c0, c1] : List Value).drop 0).take (Try.prog.cellsOf 3)) = xs[0]? := hfld 0 _ rfl
  have g1 : DataW.trod enc Try.prog W 0 (fun _ => true) true n 29 ((([c0, c1] : List Value).drop 1).take (Try.prog.cellsOf 29)) = xs[1]? := hfld 1 _ rfl
  simp only [Try.cells3, Try.cells29, List.drop_succ_cons, List.drop_zero, List.take_succ_cons, List.take_zero] at g0 g1
  rw [List.getElem?_eq_getElem (by omega)] at g0 g1
  obtain ⟨q0, e0, _, _⟩ := DataW.trod_int Try.underlying3 g0
  simp only [List.cons.injEq, and_true] at e0
  subst e0
  obtain ⟨q1, h1⟩ := open_Ris g1
  obtain ⟨a0, k0, rfl⟩ := h1.form
  exact ⟨⟨q0, q1⟩, a0, k0, rfl, ⟨h1⟩⟩
set_option maxRecDepth 100000 in
theorem open_Ra {r : Reach} {b0 : Nat} {v : Value} {d : DataW H} {p : List MemPlace} (hv : Value.okWide Try.prog W r b0 87 v) (h : DataW.Trod enc Try.prog W 0 (fun _ => true) true 87 v d p) : ∃ (cs : List Value) (U : Ra), v = .agg cs.toArray ∧ RaC 0 W cs U := by
  obtain ⟨cs, rfl, hsz⟩ := okWide_struct Try.underlying87 hv
  obtain ⟨fuel, hf⟩ := h
  obtain ⟨U, hU⟩ := open_Ra0 (cs := cs.toList) hf
  exact ⟨cs.toList, U, rfl, hU⟩
end
theorem Try.cells27 : Try.prog.cellsOf 27 = 1 := by kernel_rfl
section
variable {H : Type} {enc : TypeId × Value → H} {W : World}
set_option maxRecDepth 100000 in
theorem open_Rms {fuel : Nat} {c : Value} {x : DataW H × List MemPlace} (h : DataW.trod enc Try.prog W 0 (fun _ => true) true fuel 27 [c] = some x) : ∃ Xl, RmsAt 0 W c Xl := by
  rcases open_slice Try.underlying27 h with ⟨hcs, _⟩ | ⟨a, len, cap, m, n, D, Pl, hcs, _, hl, hm, hmm, _, hx⟩
  · simp only [List.cons.injEq, and_true] at hcs
    exact ⟨[], Or.inl ⟨_, _, hcs, rfl⟩⟩
  · simp only [List.cons.injEq, and_true] at hcs
    simp only [if_true] at hmm
    subst hmm
    rw [Try.cells81] at hx
    by_cases h0 : len = 0
    · subst h0
      exact ⟨[], Or.inl ⟨_, _, hcs, rfl⟩⟩
    · obtain ⟨Xl, hF, hall⟩ := choose_list (p := fun i (x : Rm) => ∃ cs', W.cells? 0 (a.add (i * 8)) 8 = some cs' ∧ RmC 0 W cs' x) len (fun i hi => by
        obtain ⟨cs', h1, h2⟩ := hx i (by omega)
        obtain ⟨S, hS⟩ := open_Rm0 h2
        exact ⟨S, cs', h1, hS⟩)
      have hsp : ∃ b off, a = ⟨b, off, none⟩ := by
        obtain ⟨b, off, spot⟩ := a
        obtain ⟨cs', h1, hS⟩ := hall 0 (by omega)
        have := (World.cells?_some h1).2.2 0 (by omega)
        rw [Nat.zero_mul] at this
        have e0 : ((⟨b, off, spot⟩ : Addr).add 0).add 0 = ⟨b, off, spot⟩ := by simp [Addr.add]
        rw [e0, List.getElem?_eq_getElem (by have := hS.len; omega)] at this
        have hs : spot = none := by simpa using World.cell?_spot (by simpa using this)
        exact ⟨b, off, by rw [hs]⟩
      obtain ⟨b, off, rfl⟩ := hsp
      have hrng : ∀ i (cs' : List Value), W.cells? 0 ((⟨b, off, none⟩ : Addr).add (i * 8)) 8 = some cs' → W.rangeAt b (off + i * 8) cs' := fun i cs' h1 j v hv => by
        obtain ⟨_, hln, hc⟩ := World.cells?_some h1
        have hj : j < cs'.length := (List.getElem?_eq_some_iff.1 hv).1
        have q := hc j (by omega)
        rw [add_plain, add_plain] at q
        rw [q, hv]
      have hbw : b < W.heap.size := by
        obtain ⟨cs', h1, hS⟩ := hall 0 (by omega)
        exact World.block_lt_of_cell? W _ (hrng 0 cs' h1 0 _ (List.getElem?_eq_getElem (by have := hS.len; omega)))
      refine ⟨Xl, Or.inr ⟨b, off, m, by rw [hcs, hF], ?_, by omega, hbw, Nat.zero_le _, by omega, fun i hi => ?_⟩⟩
      · intro e; rw [e] at hF; simp at hF; omega
      · obtain ⟨cs', h1, hS⟩ := hall i hi
        exact ⟨cs', hrng i cs' h1, hS⟩
end
theorem Try.cells30 : Try.prog.cellsOf 30 = 1 := by kernel_rfl
section
variable {H : Type} {enc : TypeId × Value → H} {W : World}
set_option maxRecDepth 100000 in
theorem open_Ras {fuel : Nat} {c : Value} {x : DataW H × List MemPlace} (h : DataW.trod enc Try.prog W 0 (fun _ => true) true fuel 30 [c] = some x) : ∃ Xl, RasAt 0 W c Xl := by
  rcases open_slice Try.underlying30 h with ⟨hcs, _⟩ | ⟨a, len, cap, m, n, D, Pl, hcs, _, hl, hm, hmm, _, hx⟩
  · simp only [List.cons.injEq, and_true] at hcs
    exact ⟨[], Or.inl ⟨_, _, hcs, rfl⟩⟩
  · simp only [List.cons.injEq, and_true] at hcs
    simp only [if_true] at hmm
    subst hmm
    rw [Try.cells87] at hx
    by_cases h0 : len = 0
    · subst h0
      exact ⟨[], Or.inl ⟨_, _, hcs, rfl⟩⟩
    · obtain ⟨Xl, hF, hall⟩ := choose_list (p := fun i (x : Ra) => ∃ cs', W.cells? 0 (a.add (i * 2)) 2 = some cs' ∧ RaC 0 W cs' x) len (fun i hi => by
        obtain ⟨cs', h1, h2⟩ := hx i (by omega)
        obtain ⟨S, hS⟩ := open_Ra0 h2
        exact ⟨S, cs', h1, hS⟩)
      have hsp : ∃ b off, a = ⟨b, off, none⟩ := by
        obtain ⟨b, off, spot⟩ := a
        obtain ⟨cs', h1, hS⟩ := hall 0 (by omega)
        have := (World.cells?_some h1).2.2 0 (by omega)
        rw [Nat.zero_mul] at this
        have e0 : ((⟨b, off, spot⟩ : Addr).add 0).add 0 = ⟨b, off, spot⟩ := by simp [Addr.add]
        rw [e0, List.getElem?_eq_getElem (by have := hS.len; omega)] at this
        have hs : spot = none := by simpa using World.cell?_spot (by simpa using this)
        exact ⟨b, off, by rw [hs]⟩
      obtain ⟨b, off, rfl⟩ := hsp
      have hrng : ∀ i (cs' : List Value), W.cells? 0 ((⟨b, off, none⟩ : Addr).add (i * 2)) 2 = some cs' → W.rangeAt b (off + i * 2) cs' := fun i cs' h1 j v hv => by
        obtain ⟨_, hln, hc⟩ := World.cells?_some h1
        have hj : j < cs'.length := (List.getElem?_eq_some_iff.1 hv).1
        have q := hc j (by omega)
        rw [add_plain, add_plain] at q
        rw [q, hv]
      have hbw : b < W.heap.size := by
        obtain ⟨cs', h1, hS⟩ := hall 0 (by omega)
        exact World.block_lt_of_cell? W _ (hrng 0 cs' h1 0 _ (List.getElem?_eq_getElem (by have := hS.len; omega)))
      refine ⟨Xl, Or.inr ⟨b, off, m, by rw [hcs, hF], ?_, by omega, hbw, Nat.zero_le _, by omega, fun i hi => ?_⟩⟩
      · intro e; rw [e] at hF; simp at hF; omega
      · obtain ⟨cs', h1, hS⟩ := hall i hi
        exact ⟨cs', hrng i cs' h1, hS⟩
end
end Go.Proofs.Ytfbfgljkiikabaa
namespace Go.Proofs.Ytfbfgljkiikabaa
open Go.ChangeShapes Go.WideShapes Go.ChangeAt Go.RowKit Go.Deep
theorem Try.cells32 : Try.prog.cellsOf 32 = 18 := by kernel_rfl
theorem lstRr {l : List Value} (h : l.length = 18) : ∃ c0 c1 c2 c3 c4 c5 c6 c7 c8 c9 c10 c11 c12 c13 c14 c15 c16 c17, l = [c0, c1, c2, c3, c4, c5, c6, c7, c8, c9, c10, c11, c12, c13, c14, c15, c16, c17] := by
  match l, h with
  | [c0, c1, c2, c3, c4, c5, c6, c7, c8, c9, c10, c11, c12, c13, c14, c15, c16, c17], _ => exact ⟨c0, c1, c2, c3, c4, c5, c6, c7, c8, c9, c10, c11, c12, c13, c14, c15, c16, c17, rfl⟩
section
variable {H : Type} {enc : TypeId × Value → H} {W : World}
set_option maxRecDepth 100000 in
theorem open_Rr0 {fuel : Nat} {cs : List Value} {x : DataW H × List MemPlace} (h : DataW.trod enc Try.prog W 0 (fun _ => true) true fuel 32 cs = some x) : ∃ U, RrC 0 W cs U := by
  obtain ⟨xs, n, _, _, hl, hlen, hfld⟩ := DataW.trod_struct Try.underlying32 h
  obtain ⟨c0, c1, c2, c3, c4, c5, c6, c7, c8, c9, c10, c11, c12, c13, c14, c15, c16, c17, rfl⟩ := lstRr (hl.trans Try.cells32)
  simp only [Array.size, List.length_cons, List.length_nil] at hlen
  have g0 : DataW.trod enc Try.prog W 0 (fun _ => true) true n 3 ((([c0, c1, c2, c3, c4, c5, c6, c7, c8, c9, c10, c11, c12, c13, c14, c15, c16, c17] : List Value).drop 0).take (Try.prog.cellsOf 3)) = xs[0]? := hfld 0 _ rfl
  have g1 : DataW.trod enc Try.prog W 0 (fun _ => true) true n 3 ((([c0, c1, c2, c3, c4, c5, c6, c7, c8, c9, c10, c11, c12, c13, c14, c15, c16, c17] : List Value).drop 1).take (Try.prog.cellsOf 3)) = xs[1]? := hfld 1 _ rfl
  have g2 : DataW.trod enc Try.prog W 0 (fun _ => true) true n 4 ((([c0, c1, c2, c3, c4, c5, c6, c7, c8, c9, c10, c11, c12, c13, c14, c15, c16, c17] : List Value).drop 2).take (Try.prog.cellsOf 4)) = xs[2]? := hfld 2 _ rfl
  have g3 : DataW.trod enc Try.prog W 0 (fun _ => true) true n 26 ((([c0, c1, c2, c3, c4, c5, c6, c7, c8, c9, c10, c11, c12, c13, c14, c15, c16, c17] : List Value).drop 3).take (Try.prog.cellsOf 26)) = xs[3]? := hfld 3 _ rfl
  have g4 : DataW.trod enc Try.prog W 0 (fun _ => true) true n 26 ((([c0, c1, c2, c3, c4, c5, c6, c7, c8, c9, c10, c11, c12, c13, c14, c15, c16, c17] : List Value).drop 6).take (Try.prog.cellsOf 26)) = xs[4]? := hfld 4 _ rfl
  have g5 : DataW.trod enc Try.prog W 0 (fun _ => true) true n 27 ((([c0, c1, c2, c3, c4, c5, c6, c7, c8, c9, c10, c11, c12, c13, c14, c15, c16, c17] : List Value).drop 9).take (Try.prog.cellsOf 27)) = xs[5]? := hfld 5 _ rfl
  have g6 : DataW.trod enc Try.prog W 0 (fun _ => true) true n 28 ((([c0, c1, c2, c3, c4, c5, c6, c7, c8, c9, c10, c11, c12, c13, c14, c15, c16, c17] : List Value).drop 10).take (Try.prog.cellsOf 28)) = xs[6]? := hfld 6 _ rfl
  have g7 : DataW.trod enc Try.prog W 0 (fun _ => true) true n 4 ((([c0, c1, c2, c3, c4, c5, c6, c7, c8, c9, c10, c11, c12, c13, c14, c15, c16, c17] : List Value).drop 11).take (Try.prog.cellsOf 4)) = xs[7]? := hfld 7 _ rfl
  have g8 : DataW.trod enc Try.prog W 0 (fun _ => true) true n 4 ((([c0, c1, c2, c3, c4, c5, c6, c7, c8, c9, c10, c11, c12, c13, c14, c15, c16, c17] : List Value).drop 12).take (Try.prog.cellsOf 4)) = xs[8]? := hfld 8 _ rfl
  have g9 : DataW.trod enc Try.prog W 0 (fun _ => true) true n 3 ((([c0, c1, c2, c3, c4, c5, c6, c7, c8, c9, c10, c11, c12, c13, c14, c15, c16, c17] : List Value).drop 13).take (Try.prog.cellsOf 3)) = xs[9]? := hfld 9 _ rfl
  have g10 : DataW.trod enc Try.prog W 0 (fun _ => true) true n 29 ((([c0, c1, c2, c3, c4, c5, c6, c7, c8, c9, c10, c11, c12, c13, c14, c15, c16, c17] : List Value).drop 14).take (Try.prog.cellsOf 29)) = xs[10]? := hfld 10 _ rfl
  have g11 : DataW.trod enc Try.prog W 0 (fun _ => true) true n 24 ((([c0, c1, c2, c3, c4, c5, c6, c7, c8, c9, c10, c11, c12, c13, c14, c15, c16, c17] : List Value).drop 15).take (Try.prog.cellsOf 24)) = xs[11]? := hfld 11 _ rfl
  have g12 : DataW.trod enc Try.prog W 0 (fun _ => true) true n 30 ((([c0, c1, c2, c3, c4, c5, c6, c7, c8, c9, c10, c11, c12, c13, c14, c15, c16, c17] : List Value).drop 16).take (Try.prog.cellsOf 30)) = xs[12]? := hfld 12 _ rfl
  have g13 : DataW.trod enc Try.prog W 0 (fun _ => true) true n 3 ((([c0, c1, c2, c3, c4, c5, c6, c7, c8, c9, c10, c11, c12, c13, c14, c15, c16, c17] : List Value).drop 17).take (Try.prog.cellsOf 3)) = xs[13]? := hfld 13 _ rfl
  simp only [Try.cells3, Try.cells4, Try.cells29, Try.cells28, Try.cells30, Try.cells27, Try.cells24, Try.cells26, List.drop_succ_cons, List.drop_zero, List.take_succ_cons, List.take_zero] at g0 g1 g2 g3 g4 g5 g6 g7 g8 g9 g10 g11 g12 g13
  rw [List.getElem?_eq_getElem (by omega)] at g0 g1 g2 g3 g4 g5 g6 g7 g8 g9 g10 g11 g12 g13
  obtain ⟨q0, e0, _, _⟩ := DataW.trod_int Try.underlying3 g0
  simp only [List.cons.injEq, and_true] at e0
  subst e0
  obtain ⟨q1, e1, _, _⟩ := DataW.trod_int Try.underlying3 g1
  simp only [List.cons.injEq, and_true] at e1
  subst e1
  obtain ⟨q2, e2, _⟩ := DataW.trod_bool Try.underlying4 g2
  simp only [List.cons.injEq, and_true] at e2
  subst e2
  obtain ⟨q3, a0, k0, e3, h3⟩ := open_Rd0 g3
  unfold rdL at e3
  simp only [List.cons.injEq, and_true] at e3
  obtain ⟨r3_0, r3_1, r3_2⟩ := e3
  subst r3_0 r3_1 r3_2
  obtain ⟨q4, a1, k1, e4, h4⟩ := open_Rd0 g4
  unfold rdL at e4
  simp only [List.cons.injEq, and_true] at e4
  obtain ⟨r4_0, r4_1, r4_2⟩ := e4
  subst r4_0 r4_1 r4_2
  obtain ⟨q5, h5⟩ := open_Rms g5
  obtain ⟨a2, k2, rfl⟩ := h5.form
  obtain ⟨q6, h6⟩ := open_Rts g6
  obtain ⟨a3, k3, rfl⟩ := h6.form
  obtain ⟨q7, e7, _⟩ := DataW.trod_bool Try.underlying4 g7
  simp only [List.cons.injEq, and_true] at e7
  subst e7
  obtain ⟨q8, e8, _⟩ := DataW.trod_bool Try.underlying4 g8
  simp only [List.cons.injEq, and_true] at e8
  subst e8
  obtain ⟨q9, e9, _, _⟩ := DataW.trod_int Try.underlying3 g9
  simp only [List.cons.injEq, and_true] at e9
  subst e9
  obtain ⟨q10, h10⟩ := open_Ris g10
  obtain ⟨a4, k4, rfl⟩ := h10.form
  obtain ⟨q11, h11⟩ := open_Rss g11
  obtain ⟨a5, k5, rfl⟩ := h11.form
  obtain ⟨q12, h12⟩ := open_Ras g12
  obtain ⟨a6, k6, rfl⟩ := h12.form
  obtain ⟨q13, e13, _, _⟩ := DataW.trod_int Try.underlying3 g13
  simp only [List.cons.injEq, and_true] at e13
  subst e13
  exact ⟨⟨q0, q1, q2, q3, q4, q5, q6, q7, q8, q9, q10, q11, q12, q13⟩, a0, k0, a1, k1, a2, k2, a3, k3, a4, k4, a5, k5, a6, k6, rfl, ⟨h3.l0, h4.l0, h5, h6, h10, h11, h12⟩⟩
set_option maxRecDepth 100000 in
theorem open_Rr {r : Reach} {b0 : Nat} {v : Value} {d : DataW H} {p : List MemPlace} (hv : Value.okWide Try.prog W r b0 32 v) (h : DataW.Trod enc Try.prog W 0 (fun _ => true) true 32 v d p) : ∃ (cs : List Value) (U : Rr), v = .agg cs.toArray ∧ RrC 0 W cs U := by
  obtain ⟨cs, rfl, hsz⟩ := okWide_struct Try.underlying32 hv
  obtain ⟨fuel, hf⟩ := h
  obtain ⟨U, hU⟩ := open_Rr0 (cs := cs.toList) hf
  exact ⟨cs.toList, U, rfl, hU⟩
end
end Go.Proofs.Ytfbfgljkiikabaa
