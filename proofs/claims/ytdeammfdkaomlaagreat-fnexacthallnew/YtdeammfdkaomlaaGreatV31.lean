import Derived.Test.YtdeammfdkaomlaaGreatV15
import Derived.WalkKit
import Derived.WalkSpells
import Derived.WalkLawsBesides
import Derived.Deep.QuietTactic
import Derived.BigQuiet
import Derived.Deep.OwnRows
import Derived.Deep.RegionWith
import Derived.Deep.RegionHeld3
import Derived.OrdersHeld
namespace Go.Proofs.YtdeammfdkaomlaaGreat
open Go.RowKit Go.Deep

def FfOne (b o c0 c1 : Nat) (w : World) (x : Fd) : Prop := FdSize x ∧ ∃ (vv0 : Value), c0 ≤ c1 ∧ FdCells w b o x vv0 ∧ StrsOwn c0 c1 w vv0 x.words
theorem FfOne.near {b o c0 c1 o1 d0 d1 : Nat} {w w' : World} {x : Fd} (h : FfOne b o c0 c1 w x) (hn : Near b o1 11 d0 d1 w w') (ho : o + 11 ≤ o1 ∨ o1 + 11 ≤ o) (hi : c1 ≤ d0 ∨ d1 ≤ c0) (hb : b < c0 ∨ c1 ≤ b) : FfOne b o c0 c1 w' x := by
  obtain ⟨hs, vv0, q0, hc, l0⟩ := h
  obtain ⟨h0, h1, h2, h3, h4, h5, h6, h7, h8, h9, h10⟩ := hc
  have e : ∀ t, t < 11 → w'.cell? ⟨b, o + t, none⟩ = w.cell? ⟨b, o + t, none⟩ := fun t ht => hn.cell _ (by omega)
  have e0 : w'.cell? ⟨b, o, none⟩ = w.cell? ⟨b, o, none⟩ := hn.cell _ (by omega)
  exact ⟨hs, vv0, q0, ⟨e0.trans h0, (e 1 (by omega)).trans h1, (e 2 (by omega)).trans h2, (e 3 (by omega)).trans h3, (e 4 (by omega)).trans h4, (e 5 (by omega)).trans h5, (e 6 (by omega)).trans h6, (e 7 (by omega)).trans h7, (e 8 (by omega)).trans h8, (e 9 (by omega)).trans h9, (e 10 (by omega)).trans h10⟩, l0.near hn (by omega) (by omega)⟩
theorem FfOne.touch {b o c0 c1 : Nat} {lo hi : Nat} {w w' : World} {x : Fd} (h : FfOne b o c0 c1 w x) (ht : Touch lo hi w w') (hlt : b < w.heap.size) (hb : b < lo ∨ hi ≤ b) (hi' : c1 ≤ lo ∨ hi ≤ c0) : FfOne b o c0 c1 w' x := by
  obtain ⟨hs, vv0, q0, hc, l0⟩ := h
  obtain ⟨h0, h1, h2, h3, h4, h5, h6, h7, h8, h9, h10⟩ := hc
  exact ⟨hs, vv0, q0, ⟨(ht.cell (p := ⟨b, o, none⟩) hlt hb).trans h0, (ht.cell (p := ⟨b, o + 1, none⟩) hlt hb).trans h1, (ht.cell (p := ⟨b, o + 2, none⟩) hlt hb).trans h2, (ht.cell (p := ⟨b, o + 3, none⟩) hlt hb).trans h3, (ht.cell (p := ⟨b, o + 4, none⟩) hlt hb).trans h4, (ht.cell (p := ⟨b, o + 5, none⟩) hlt hb).trans h5, (ht.cell (p := ⟨b, o + 6, none⟩) hlt hb).trans h6, (ht.cell (p := ⟨b, o + 7, none⟩) hlt hb).trans h7, (ht.cell (p := ⟨b, o + 8, none⟩) hlt hb).trans h8, (ht.cell (p := ⟨b, o + 9, none⟩) hlt hb).trans h9, (ht.cell (p := ⟨b, o + 10, none⟩) hlt hb).trans h10⟩, l0.touch ht (by omega)⟩
theorem FfOne.below {b o c0 c1 : Nat}  {w w' : World} {x : Fd} (h : FfOne b o c0 c1 w x) (ht : Below w.heap.size w w') (hlt : b < w.heap.size) : FfOne b o c0 c1 w' x := by
  obtain ⟨hs, vv0, q0, hc, l0⟩ := h
  obtain ⟨h0, h1, h2, h3, h4, h5, h6, h7, h8, h9, h10⟩ := hc
  exact ⟨hs, vv0, q0, ⟨(ht.cell (p := ⟨b, o, none⟩) hlt).trans h0, (ht.cell (p := ⟨b, o + 1, none⟩) hlt).trans h1, (ht.cell (p := ⟨b, o + 2, none⟩) hlt).trans h2, (ht.cell (p := ⟨b, o + 3, none⟩) hlt).trans h3, (ht.cell (p := ⟨b, o + 4, none⟩) hlt).trans h4, (ht.cell (p := ⟨b, o + 5, none⟩) hlt).trans h5, (ht.cell (p := ⟨b, o + 6, none⟩) hlt).trans h6, (ht.cell (p := ⟨b, o + 7, none⟩) hlt).trans h7, (ht.cell (p := ⟨b, o + 8, none⟩) hlt).trans h8, (ht.cell (p := ⟨b, o + 9, none⟩) hlt).trans h9, (ht.cell (p := ⟨b, o + 10, none⟩) hlt).trans h10⟩, l0.below ht⟩
structure FfRow (lo hi : Nat) (w : World) (b off n : Nat) (c : Nat → Nat × Nat) (X : Nat → Fd) : Prop where
  lt : b < w.heap.size
  low : lo ≤ b
  bh : b < hi
  seg : ∀ i, i < n → lo ≤ (c i).1 ∧ (c i).2 ≤ hi ∧ (b < (c i).1 ∨ (c i).2 ≤ b)
  mono : ∀ i j, i < j → j < n → (c i).2 ≤ (c j).1
  frz : ∀ i, w.frozen? ⟨b, i, none⟩ = false
  row : ∀ i, i < n → FfOne b (off + i * 11) (c i).1 (c i).2 w (X i)
theorem FfRow.near {lo hi : Nat} {w w' : World} {b off n : Nat} {c : Nat → Nat × Nat} {X : Nat → Fd} (h : FfRow lo hi w b off n c X) {j : Nat} (hj : j < n) (hn : Near b (off + j * 11) 11 (c j).1 (c j).2 w w') {x : Fd} (hx : FfOne b (off + j * 11) (c j).1 (c j).2 w' x) : FfRow lo hi w' b off n c (fun i => if i = j then x else X i) := by
  refine ⟨Nat.lt_of_lt_of_le h.lt hn.size, h.low, h.bh, h.seg, h.mono, fun i => (hn.frz i).trans (h.frz i), fun i hi' => ?_⟩
  by_cases e : i = j
  · subst e; rw [if_pos rfl]; exact hx
  · rw [if_neg e]
    refine (h.row i hi').near hn (by omega) ?_ (h.seg i hi').2.2
    rcases Nat.lt_or_ge i j with hij | hij
    · exact Or.inl (h.mono i j hij hj)
    · exact Or.inr (h.mono j i (by omega) hi')
theorem FfRow.touch {lo hi lo' hi' : Nat} {w w' : World} {b off n : Nat} {c : Nat → Nat × Nat} {X : Nat → Fd} (h : FfRow lo hi w b off n c X) (ht : Touch lo' hi' w w') (ho : hi ≤ lo' ∨ hi' ≤ lo) : FfRow lo hi w' b off n c X := by
  have h1 := h.low
  have h2 := h.bh
  refine ⟨Nat.lt_of_lt_of_le h.lt ht.size, h.low, h.bh, h.seg, h.mono, fun i => (ht.frozen (p := ⟨b, i, none⟩) h.lt (by simp only []; omega)).trans (h.frz i), fun i hi' => ?_⟩
  have h5 := h.seg i hi'
  exact (h.row i hi').touch ht h.lt (by omega) (by omega)
theorem FfRow.below {lo hi : Nat} {w w' : World} {b off n : Nat} {c : Nat → Nat × Nat} {X : Nat → Fd} (h : FfRow lo hi w b off n c X) (ht : Below w.heap.size w w') : FfRow lo hi w' b off n c X :=
  ⟨Nat.lt_of_lt_of_le h.lt ht.size, h.low, h.bh, h.seg, h.mono, fun i => (ht.frozen (p := ⟨b, i, none⟩) h.lt).trans (h.frz i), fun i hi' => (h.row i hi').below ht h.lt⟩
/-- a list of one's own -/
def FdsOwn (lo hi : Nat) (w : World) (v : Value) (Xl : List Fd) : Prop :=
  (∃ (a : Option Addr) (cap : Nat), v = .slice a 0 cap ∧ Xl = []) ∨
  ∃ (b off cap : Nat) (c : Nat → Nat × Nat) (X : Nat → Fd), v = .slice (some ⟨b, off, none⟩) Xl.length cap ∧ Xl ≠ [] ∧ Xl.length ≤ maxLen ∧ Xl.length ≤ cap ∧ (∀ i (h : i < Xl.length), X i = Xl[i]) ∧ FfRow lo hi w b off Xl.length c X
theorem FdsOwn.touch {lo hi lo' hi' : Nat} {w w' : World} {v : Value} {Xl : List Fd} (h : FdsOwn lo hi w v Xl) (ht : Touch lo' hi' w w') (ho : hi ≤ lo' ∨ hi' ≤ lo) : FdsOwn lo hi w' v Xl := by
  rcases h with h | ⟨b, off, cap, c, X, h1, h2, h3, h4, h5, h6⟩
  · exact Or.inl h
  · exact Or.inr ⟨b, off, cap, c, X, h1, h2, h3, h4, h5, h6.touch ht ho⟩
theorem FdsOwn.below {lo hi : Nat} {w w' : World} {v : Value} {Xl : List Fd} (h : FdsOwn lo hi w v Xl) (ht : Below w.heap.size w w') : FdsOwn lo hi w' v Xl := by
  rcases h with h | ⟨b, off, cap, c, X, h1, h2, h3, h4, h5, h6⟩
  · exact Or.inl h
  · exact Or.inr ⟨b, off, cap, c, X, h1, h2, h3, h4, h5, h6.below ht⟩
theorem FdsOwn.form {lo hi : Nat} {w : World} {v : Value} {Xl : List Fd} (h : FdsOwn lo hi w v Xl) : ∃ a cap, v = .slice a Xl.length cap := by
  rcases h with ⟨a, cap, h, rfl⟩ | ⟨b, off, cap, c, X, h1, _⟩
  · exact ⟨a, cap, h⟩
  · exact ⟨_, cap, h1⟩
theorem FdsOwn.at {lo hi : Nat} {w : World} {v : Value} {Xl : List Fd} (h : FdsOwn lo hi w v Xl) : FdsAt lo w v Xl := by
  rcases h with h | ⟨b, off, cap, c, X, h1, h2, h3, h4, h5, h6⟩
  · exact Or.inl h
  · refine Or.inr ⟨b, off, cap, h1, h2, h3, h6.lt, h6.low, h4, fun i hi' => ?_⟩
    have hr := h6.row i hi'
    have g0 := h6.seg i hi'
    rw [h5 i hi'] at hr
    obtain ⟨hs, vv0, q0, hc, l0⟩ := hr
    exact ⟨hs, vv0, hc, (l0.in').mono (by omega)⟩
structure FfSt (wr : World) (b o c0 c1 : Nat) (vv0 : Value) (v : World) (y : Fd) : Prop where
  near : Near b o 11 c0 c1 wr v
  bc : b < c0 ∨ c1 ≤ b
  q0 : c0 ≤ c1
  cells : FdCells v b o y vv0
  l0 : StrsOwn c0 c1 v vv0 y.words
  frz : ∀ i, v.frozen? ⟨b, i, none⟩ = false
  lt : b < v.heap.size
theorem FfSt.below {wr : World} {b o c0 c1 : Nat} {vv0 : Value} {v v' : World} {y : Fd} (h : FfSt wr b o c0 c1 vv0 v y) (hb : Below v.heap.size v v') : FfSt wr b o c0 c1 vv0 v' y :=
  ⟨h.near.trans (Near.below hb h.lt), h.bc, h.q0, h.cells.below hb h.lt, h.l0.below hb, fun i => (hb.frozen (p := ⟨b, i, none⟩) h.lt).trans (h.frz i), Nat.lt_of_lt_of_le h.lt hb.size⟩
theorem FfSt.s0 {wr : World} {b o c0 c1 : Nat} {vv0 : Value} {v : World} {y : Fd} (h : FfSt wr b o c0 c1 vv0 v y) (u : ByteArray) : FfSt wr b o c0 c1 vv0 (v.setCell ⟨b, o, none⟩ (.string u)) { y with nm := u } := by
  obtain ⟨h0, h1, h2, h3, h4, h5, h6, h7, h8, h9, h10⟩ := h.cells
  have ht : Touch b (b + 1) v (v.setCell ⟨b, o, none⟩ (.string u)) := Touch.setCell _ _ _ _ _ ⟨Nat.le_refl _, by simp only []; omega⟩
  have hbc := h.bc
  have hq0 := h.q0
  exact ⟨h.near.trans (Near.set _ _ _ _ _ _ _ _ (by omega) (by omega)), h.bc, h.q0, ⟨World.cell?_setCell_same' _ _ _ (by rw [h0]; rfl), (cne (by omega)).trans h1, (cne (by omega)).trans h2, (cne (by omega)).trans h3, (cne (by omega)).trans h4, (cne (by omega)).trans h5, (cne (by omega)).trans h6, (cne (by omega)).trans h7, (cne (by omega)).trans h8, (cne (by omega)).trans h9, (cne (by omega)).trans h10⟩, h.l0.touch ht (by omega), fun i => by rw [World.frozen?_setCell]; exact h.frz i, by simpa [World.setCell] using h.lt⟩
end Go.Proofs.YtdeammfdkaomlaaGreat
namespace Go.Proofs.YtdeammfdkaomlaaGreat
open Go.RowKit Go.Deep

theorem FdsAt.take {lo : Nat} {w : World} {b off cap k : Nat} {Fs : List Fd} (hk : k ≤ Fs.length) (hm : Fs.length ≤ maxLen) (hb : b < w.heap.size) (hlo : lo ≤ b) (hcap : Fs.length ≤ cap)
    (hc : ∀ i (h : i < Fs.length), FdSize Fs[i] ∧ ∃ wv, FdCells w b (off + i * 11) Fs[i] wv ∧ StrsIn lo w wv Fs[i].words) : FdsAt lo w (.slice (some ⟨b, off, none⟩) k cap) (Fs.take k) := by
  have hl : (Fs.take k).length = k := by rw [List.length_take]; omega
  by_cases h0 : k = 0
  · subst h0; exact Or.inl ⟨_, _, rfl, by simp⟩
  · refine Or.inr ⟨b, off, cap, by rw [hl], ?_, by omega, hb, hlo, by omega, fun i hi => ?_⟩
    · intro e; rw [e] at hl; simp at hl; omega
    · rw [List.getElem_take]
      exact hc i (by omega)


end Go.Proofs.YtdeammfdkaomlaaGreat
namespace Go.Proofs.YtdeammfdkaomlaaGreat
open Go.RowKit Go.Deep

/-! a region that draws, with operations B that break what the loads read (S): whatever is taken first is waited for by all of B -/
section
variable {P : Program} {ops : Array Oper} {Q : Exit → Act → World → Prop} {md : Region.Mode} {S : World → Prop} {B : List Nat}

/-- whatever order is picked, and S holds behind every operation but those of B -/
def wpAnyB (P : Program) (md : Region.Mode) (ops : Array Oper) (Q : Exit → Act → World → Prop) (S : World → Prop) (B : List Nat) : Nat → Array Bool → Act → World → Prop
  | 0, listed, a, w => Region.ready md ops listed = [] ∧ Q .normal a w
  | fuel + 1, listed, a, w =>
    (Region.ready md ops listed = [] → Q .normal a w) ∧
    ∀ i ∈ Region.ready md ops listed, wpOp P ops Q i (fun a' w' => (i ∉ B → S w') ∧ wpAnyB P md ops Q S B fuel (listed.setIfInBounds i true) a' w') a w
theorem wpAny_of_B : ∀ (fuel : Nat) (listed : Array Bool) (a : Act) (w : World), wpAnyB P md ops Q S B fuel listed a w → wpAny P md ops Q fuel listed a w
  | 0, _, _, _, h => h
  | fuel + 1, _, _, _, h => ⟨h.1, fun i hi => wpOp_mono (fun a' w' h' => wpAny_of_B fuel _ a' w' h'.2) (h.2 i hi)⟩
/-- each of D waits for i, or for one of D -/
def waitsB (md : Region.Mode) (ops : Array Oper) (i : Nat) (D : List Nat) : Bool := D.all fun j => match ops[j]? with
  | some oj => oj.after.any fun e => Region.binds md e && ((e.on == i) || D.contains e.on)
  | none => false
theorem waitsB_no {listed : Array Bool} {i : Nat} {D : List Nat} (hD : waitsB md ops i D = true) (hi : listed.getD i true = false) (hun : ∀ j ∈ D, listed.getD j true = false) {j : Nat} (hj : j ∈ Region.ready md ops listed) : j ∉ D := by
  intro hjD
  unfold waitsB at hD
  rw [List.all_eq_true] at hD
  have h1 := hD j hjD
  obtain ⟨-, oj, hoj, hall⟩ := mem_ready.1 hj
  rw [hoj] at h1
  simp only [Array.any_eq_true] at h1
  obtain ⟨k, hk, he⟩ := h1
  rw [Bool.and_eq_true, Bool.or_eq_true, beq_iff_eq] at he
  have h2 := hall _ (Array.getElem_mem hk) he.1
  have h3 : listed.getD (oj.after[k]).on true = false := by
    rcases he.2 with h | h
    · rw [h]; exact hi
    · exact hun _ (by simpa using h)
  rcases Nat.lt_or_ge (oj.after[k]).on listed.size with h' | h'
  · simp [h'] at h2 h3; rw [h3] at h2; cases h2
  · simp [Array.getElem?_eq_none h'] at h2
theorem wpAnyB_first {i : Nat} {oi : Oper} {v : Value} {D : List Nat} (hi : ops[i]? = some oi) (hsel : ∀ (j : Nat) (o : Oper) cs b, ops[j]? = some o → o.op ≠ .select cs b)
    (hQ : ∀ c a w, Q (.panic c) (a.put oi.dst v) w → Q (.panic c) a w) (hD : waitsB md ops i D = true) (hl : ∀ b ∈ B, b ∈ D) (hil : i ∉ B) (hiD : i ∉ D) :
    ∀ (fuel : Nat) (listed : Array Bool) (a : Act) (w : World),
      (∀ j oj, ops[j]? = some oj → j ≠ i → listed.getD j true = false → (∀ e ∈ oj.after, Region.binds md e = true → e.on ≠ i) → oi.apart ops oj = true) →
      (∀ j ∈ D, listed.getD j true = false) →
      i ∈ Region.ready md ops listed → YieldsIf P ops S oi v a → S w →
      wpAnyB P md ops Q S B fuel (listed.setIfInBounds i true) (a.put oi.dst v) w → wpAnyB P md ops Q S B (fuel + 1) listed a w := by
  intro fuel
  induction fuel with
  | zero =>
    intro listed a w _ _ hr hy hS H
    refine ⟨fun h => (by rw [h] at hr; cases hr), fun j hj => ?_⟩
    by_cases hji : j = i
    · subst hji; exact hy.wpOp hi hS ⟨fun _ => hS, H⟩
    · have := ready_mono hj hji
      rw [H.1] at this
      cases this
  | succ fuel ih =>
    intro listed a w hfree hun hr hy hS H
    refine ⟨fun h => (by rw [h] at hr; cases hr), fun j hj => ?_⟩
    by_cases hji : j = i
    · subst hji; exact hy.wpOp hi hS ⟨fun _ => hS, H⟩
    · have hjD : j ∉ D := waitsB_no hD (mem_ready.1 hr).1 hun hj
      have hjl : j ∉ B := fun e => hjD (hl j e)
      have h1 := H.2 j (ready_mono hj hji)
      obtain ⟨hjun, oj, hoj, hall⟩ := mem_ready.1 hj
      have hnot : ∀ e ∈ oj.after, Region.binds md e = true → e.on ≠ i := fun e he hb heq => by
        have h1 := hall e he hb
        have h0 := (mem_ready.1 hr).1
        rw [heq] at h1
        rcases Nat.lt_or_ge i listed.size with h' | h'
        · simp [h'] at h0 h1; rw [h0] at h1; cases h1
        · simp [Array.getElem?_eq_none h'] at h1
      have h2 := wpOp_putIf hoj (hfree j oj hoj hji hjun hnot) (fun cs b => hsel i oi cs b hi) (fun cs b => hsel j oj cs b hoj) hQ hy h1
      have hfree' : ∀ k ok, ops[k]? = some ok → k ≠ i → (listed.setIfInBounds j true).getD k true = false →
          (∀ e ∈ ok.after, Region.binds md e = true → e.on ≠ i) → oi.apart ops ok = true := fun k ok hk hki hun hno => by
        refine hfree k ok hk hki ?_ hno
        by_cases hjk : j = k
        · subst hjk; exact hjun
        · rw [getD_set_ne true hjk] at hun; exact hun
      have hun' : ∀ k ∈ D, (listed.setIfInBounds j true).getD k true = false := fun k hk => by
        rw [getD_set_ne true (fun e => hjD (by rw [e]; exact hk))]
        exact hun k hk
      refine wpOp_mono (fun a' w' h3 => ⟨h3.2.1, ih (listed.setIfInBounds j true) a' w' hfree' hun' (ready_mono hr (Ne.symm hji)) h3.1 (h3.2.1 hjl) ?_⟩) h2
      rw [Array.setIfInBounds_comm _ _ hji]
      exact h3.2.2
theorem wpAnyB_take (D : List Nat) {i : Nat} {oi : Oper} {v : Value} {fuel : Nat} {listed : Array Bool} {a : Act} {w : World} (hi : ops[i]? = some oi)
    (hs : Region.noSelect ops = true) (hf : Region.free md ops listed i = true) (hr : (Region.ready md ops listed).contains i = true)
    (hD : (waitsB md ops i D && (B.all fun b => D.contains b) && !(B.contains i) && !D.contains i && D.all fun j => !listed.getD j true) = true)
    (hQ : ∀ c a w, Q (.panic c) (a.put oi.dst v) w → Q (.panic c) a w) (hy : YieldsIf P ops S oi v a) (hS : S w)
    (h : wpAnyB P md ops Q S B fuel (listed.setIfInBounds i true) (a.put oi.dst v) w) : wpAnyB P md ops Q S B (fuel + 1) listed a w := by
  simp only [Bool.and_eq_true, Bool.not_eq_true', List.all_eq_true] at hD
  obtain ⟨⟨⟨⟨h1, h2⟩, h3⟩, h4⟩, h5⟩ := hD
  exact wpAnyB_first hi (Region.noSelect_spec hs) hQ h1 (fun b hb => by simpa using h2 b hb) (by simpa using h3) (by simpa using h4) fuel listed a w (Region.free_spec hi hf) h5 (by simpa using hr) hy hS h
theorem tB (i : Nat) (v : Value) (D : List Nat) {oi : Oper} {fuel : Nat} {listed : Array Bool} {a : Act} {w : World} (hi : ops[i]? = some oi) (hS : S w)
    (h : wpAnyB P md ops Q S B fuel (listed.setIfInBounds i true) (a.put oi.dst v) w)
    (hs : Region.noSelect ops = true := by kernel_rfl) (hf : Region.free md ops listed i = true := by kernel_rfl) (hr : (Region.ready md ops listed).contains i = true := by kernel_rfl)
    (hD : (waitsB md ops i D && (B.all fun b => D.contains b) && !(B.contains i) && !D.contains i && D.all fun j => !listed.getD j true) = true := by kernel_rfl)
    (hQ : ∀ c a w, Q (.panic c) (a.put oi.dst v) w → Q (.panic c) a w := by exact fun _ _ _ h => h)
    (hy : YieldsIf P ops S oi v a := by exact Or.inl ⟨by rfl, fun W hW => by (repeat obtain ⟨_, hW⟩ : _ ∧ _ := hW); go_simp⟩) : wpAnyB P md ops Q S B (fuel + 1) listed a w :=
  wpAnyB_take D hi hs hf hr hD hQ hy hS h
/-- one operation comes up -/
theorem wpAnyB_one {i : Nat} {o : Oper} {fuel : Nat} {listed : Array Bool} {a : Act} {w : World} (hr : Region.ready md ops listed = [i]) (ho : ops[i]? = some o)
    (h : ∀ K' : Act → World → Prop, Shut (∀ a w, (i ∉ B → S w) → ((i ∉ B → S w) → wpAnyB P md ops Q S B fuel (listed.setIfInBounds i true) a w) → K' a w) → if Region.wanted o (yielded ops a.tmps) = true then Oper.wp P o a w K' Q else K' (a.put o.dst undef) w) : wpAnyB P md ops Q S B (fuel + 1) listed a w := by
  refine ⟨fun h0 => (by rw [hr] at h0; cases h0), fun j hj => ?_⟩
  rw [hr] at hj
  have := List.mem_singleton.1 hj
  subst this
  exact wpOp_step ho fun K' hK => h K' fun a w hS hW => hK a w ⟨hS, hW hS⟩
theorem oB (i : Nat) {o : Oper} {fuel : Nat} {listed : Array Bool} {a : Act} {w : World} (ho : ops[i]? = some o)
    (h : ∀ K' : Act → World → Prop, Shut (∀ a w, (i ∉ B → S w) → ((i ∉ B → S w) → wpAnyB P md ops Q S B fuel (listed.setIfInBounds i true) a w) → K' a w) → if Region.wanted o (yielded ops a.tmps) = true then Oper.wp P o a w K' Q else K' (a.put o.dst undef) w)
    (hr : Region.ready md ops listed = [i] := by kernel_rfl) : wpAnyB P md ops Q S B (fuel + 1) listed a w := wpAnyB_one hr ho h
theorem wpAnyB_done {listed : Array Bool} {a : Act} {w : World} (hr : Region.ready md ops listed = []) (h : Q .normal a w) : ∀ fuel, wpAnyB P md ops Q S B fuel listed a w
  | 0 => ⟨hr, h⟩
  | _ + 1 => ⟨fun _ => h, by rw [hr]; simp⟩
theorem wp_region_B (B : List Nat) {id : Nat} {a : Act} {w : World} (hm : P.follows .mixedOrders = true) (hS : S w.drew)
    (h : S w.drew → wpAnyB P .any ops Q S B ops.size (Array.replicate ops.size false) a w.drew) : (Code.region id ops true).wp P Q a w :=
  wp_region_any hm (wpAny_of_B _ _ _ _ (h hS))
end
end Go.Proofs.YtdeammfdkaomlaaGreat
