import Derived.Test.YtfbfgljkiikabaaV06
import Derived.Test.YtfbfgljkiikabaaV07
import Derived.Test.YtfbfgljkiikabaaV09
import Derived.Maps.AppendAt
import Derived.ArgAppend
namespace Go.Proofs.Ytfbfgljkiikabaa
open Go.RowKit Go.Deep

/-- the cells of a list, one thing behind the other -/
def flatV {X : Type} (f : X → List Value) : List X → List Value
  | [] => []
  | x :: r => f x ++ flatV f r
theorem flatV_len {X : Type} {f : X → List Value} {n : Nat} (h : ∀ x, (f x).length = n) : ∀ L : List X, (flatV f L).length = L.length * n
  | [] => by simp [flatV]
  | x :: r => by rw [flatV, List.length_append, h, flatV_len h r, List.length_cons, Nat.succ_mul, Nat.add_comm]
theorem flatV_get {X : Type} {f : X → List Value} {n : Nat} (h : ∀ x, (f x).length = n) : ∀ (L : List X) (i t : Nat) (hi : i < L.length), t < n → (flatV f L)[i * n + t]? = (f L[i])[t]?
  | [], i, t, hi, _ => by simp at hi
  | x :: r, 0, t, hi, ht => by
    rw [flatV, Nat.zero_mul, Nat.zero_add, List.getElem?_append_left (by rw [h]; exact ht)]
    rfl
  | x :: r, i + 1, t, hi, ht => by
    rw [flatV, List.getElem?_append_right (by rw [h, Nat.succ_mul]; omega), h, show (i + 1) * n + t - n = i * n + t by rw [Nat.succ_mul]; omega, flatV_get h r i t (by simpa using hi) ht]
    rfl
theorem flatV_app {X : Type} {f : X → List Value} : ∀ A B : List X, flatV f (A ++ B) = flatV f A ++ flatV f B
  | [], B => rfl
  | x :: r, B => by rw [List.cons_append, flatV, flatV, flatV_app r B, List.append_assoc]
theorem flatV_at {X : Type} {f : X → List Value} {n : Nat} (hn : 0 < n) (h : ∀ x, (f x).length = n) {L : List X} {j : Nat} {u : Value} (hj : (flatV f L)[j]? = some u) : ∃ (hi : j / n < L.length), (f L[j / n])[j % n]? = some u := by
  have hlt : j < L.length * n := by
    rw [← flatV_len h L]
    exact (List.getElem?_eq_some_iff.1 hj).1
  have hi : j / n < L.length := (Nat.div_lt_iff_lt_mul hn).2 hlt
  refine ⟨hi, ?_⟩
  rw [← flatV_get h L (j / n) (j % n) hi (Nat.mod_lt _ hn), Nat.mul_comm, Nat.div_add_mod]
  exact hj
theorem flatV_mem {X : Type} {f : X → List Value} {L : List X} {u : Value} (hu : u ∈ flatV f L) : ∃ x ∈ L, u ∈ f x := by
  induction L with
  | nil => cases hu
  | cons x r ih =>
    rw [flatV, List.mem_append] at hu
    rcases hu with hu | hu
    · exact ⟨x, List.mem_cons_self .., hu⟩
    · obtain ⟨y, hy, h⟩ := ih hu
      exact ⟨y, List.mem_cons_of_mem _ hy, h⟩
/-- what a row that was made anew holds -/
theorem frozen_none {w : World} {g : Nat} {cur : Array Value} {e : TypeId} (h : w.heap[g]? = some (.cells cur e (0, 0))) (i : Nat) : w.frozen? ⟨g, i, none⟩ = false := by
  simp [World.frozen?, h]
theorem cell_heap {w : World} {g : Nat} {cur : Array Value} {e : TypeId} {fz : Nat × Nat} (h : w.heap[g]? = some (.cells cur e fz)) (i : Nat) : w.cell? ⟨g, i, none⟩ = cur[i]? := by
  simp [World.cell?, h]
theorem flatV_take {X : Type} {f : X → List Value} {L : List X} {n j : Nat} {u : Value} (h : (flatV f (L.take n))[j]? = some u) : (flatV f L)[j]? = some u := by
  have e : flatV f L = flatV f (L.take n) ++ flatV f (L.drop n) := by rw [← flatV_app, List.take_append_drop]
  rw [e, List.getElem?_append_left (List.getElem?_eq_some_iff.1 h).1]
  exact h
theorem flatV_drop {X : Type} {f : X → List Value} {s : Nat} (hs : ∀ x, (f x).length = s) {L : List X} {n j : Nat} {u : Value} (hn : n ≤ L.length) (h : (flatV f (L.drop n))[j]? = some u) : (flatV f L)[n * s + j]? = some u := by
  have e : flatV f L = flatV f (L.take n) ++ flatV f (L.drop n) := by rw [← flatV_app, List.take_append_drop]
  have hl : (flatV f (L.take n)).length = n * s := by rw [flatV_len hs, List.length_take, Nat.min_eq_left hn]
  rw [e, List.getElem?_append_right (by omega), hl, show n * s + j - n * s = j by omega]
  exact h
theorem wpList_append_run {P : Program} {w w' : World} {v v1 v2 : Value} {ops : Array Oper} {rest : List Oper} {o : Oper} {a : Act} {Q : Exit → Act → World → Prop} (hgd : o.guard = none) (s x : Operand) (t : TypeId)
    (ho : o.op = .call { callee := .builtin .append, args := #[s, x], argTypes := #[t, t] }) (hs : a.eval s = v1) (hx : a.eval x = v2) (hr : (Builtin.append_ #[t, t] o.type #[v1, v2]).run P w = .ok v w')
    (h : wpList P ops Q rest (a.put o.dst v) w') : wpList P ops Q (o :: rest) a w := by
  refine wpList_plain hgd fun K hK => ?_
  unfold Oper.wp execOp
  simp only [ho, resolve, invoke, builtin, Sem.run_bind, Sem.run_pure, Result.andThen_ok, List.map_toArray, List.map_cons, List.map_nil, hs, hx, hr]
  exact hK _ _ h
end Go.Proofs.Ytfbfgljkiikabaa
namespace Go.Proofs.Ytfbfgljkiikabaa
open Go.RowKit Go.Deep

def RaSize (x : Ra) : Prop := x = x
structure RaCells (w : World) (b o : Nat) (x : Ra) (vv0 : Value) : Prop where
  c0 : w.cell? ⟨b, o, none⟩ = some (.int .i64 x.ix)
  c1 : w.cell? ⟨b, o + 1, none⟩ = some vv0
theorem RaCells.below {w w' : World} {b o : Nat} {x : Ra} {vv0 : Value} (h : RaCells w b o x vv0) {m : Nat} (hb : Below m w w') (hlt : b < m) : RaCells w' b o x vv0 := by
  have e : ∀ o, w'.cell? ⟨b, o, none⟩ = w.cell? ⟨b, o, none⟩ := fun o => hb.cell (p := ⟨b, o, none⟩) hlt
  exact ⟨by rw [e]; exact h.c0, by rw [e]; exact h.c1⟩
theorem RaCells.rng {w : World} {b o : Nat} {x : Ra} {a : Option Addr} {k : Nat} (h : RaCells w b o x (.slice a x.fr.length k)) : w.rangeAt b o (raL x a k) := fun j v hv => by
  match j, hv with
  | 0, hv => cases hv; exact h.c0
  | 1, hv => cases hv; exact h.c1
def RaOne (b o c0 c1 : Nat) (w : World) (x : Ra) : Prop := RaSize x ∧ ∃ (vv0 : Value), c0 ≤ c1 ∧ RaCells w b o x vv0 ∧ RisOwn c0 c1 w vv0 x.fr
theorem RaOne.near {b o c0 c1 o1 d0 d1 : Nat} {w w' : World} {x : Ra} (h : RaOne b o c0 c1 w x) (hn : Near b o1 2 d0 d1 w w') (ho : o + 2 ≤ o1 ∨ o1 + 2 ≤ o) (hi : c1 ≤ d0 ∨ d1 ≤ c0) (hb : b < c0 ∨ c1 ≤ b) : RaOne b o c0 c1 w' x := by
  obtain ⟨hs, vv0, q0, hc, l0⟩ := h
  obtain ⟨h0, h1⟩ := hc
  have e : ∀ t, t < 2 → w'.cell? ⟨b, o + t, none⟩ = w.cell? ⟨b, o + t, none⟩ := fun t ht => hn.cell _ (by omega)
  have e0 : w'.cell? ⟨b, o, none⟩ = w.cell? ⟨b, o, none⟩ := hn.cell _ (by omega)
  exact ⟨hs, vv0, q0, ⟨e0.trans h0, (e 1 (by omega)).trans h1⟩, l0.near hn (by omega) (by omega)⟩
theorem RaOne.touch {b o c0 c1 : Nat} {lo hi : Nat} {w w' : World} {x : Ra} (h : RaOne b o c0 c1 w x) (ht : Touch lo hi w w') (hlt : b < w.heap.size) (hb : b < lo ∨ hi ≤ b) (hi' : c1 ≤ lo ∨ hi ≤ c0) : RaOne b o c0 c1 w' x := by
  obtain ⟨hs, vv0, q0, hc, l0⟩ := h
  obtain ⟨h0, h1⟩ := hc
  exact ⟨hs, vv0, q0, ⟨(ht.cell (p := ⟨b, o, none⟩) hlt hb).trans h0, (ht.cell (p := ⟨b, o + 1, none⟩) hlt hb).trans h1⟩, l0.touch ht (by omega)⟩
theorem RaOne.below {b o c0 c1 : Nat}  {w w' : World} {x : Ra} (h : RaOne b o c0 c1 w x) (ht : Below w.heap.size w w') (hlt : b < w.heap.size) : RaOne b o c0 c1 w' x := by
  obtain ⟨hs, vv0, q0, hc, l0⟩ := h
  obtain ⟨h0, h1⟩ := hc
  exact ⟨hs, vv0, q0, ⟨(ht.cell (p := ⟨b, o, none⟩) hlt).trans h0, (ht.cell (p := ⟨b, o + 1, none⟩) hlt).trans h1⟩, l0.below ht⟩
structure RaRow (lo hi : Nat) (w : World) (b off n : Nat) (c : Nat → Nat × Nat) (X : Nat → Ra) : Prop where
  lt : b < w.heap.size
  low : lo ≤ b
  bh : b < hi
  seg : ∀ i, i < n → lo ≤ (c i).1 ∧ (c i).2 ≤ hi ∧ (b < (c i).1 ∨ (c i).2 ≤ b)
  ap : ∀ i j, i < n → j < n → i ≠ j → (c i).2 ≤ (c j).1 ∨ (c j).2 ≤ (c i).1
  frz : ∀ i, w.frozen? ⟨b, i, none⟩ = false
  row : ∀ i, i < n → RaOne b (off + i * 2) (c i).1 (c i).2 w (X i)
theorem RaRow.near {lo hi : Nat} {w w' : World} {b off n : Nat} {c : Nat → Nat × Nat} {X : Nat → Ra} (h : RaRow lo hi w b off n c X) {j : Nat} (hj : j < n) (hn : Near b (off + j * 2) 2 (c j).1 (c j).2 w w') {x : Ra} (hx : RaOne b (off + j * 2) (c j).1 (c j).2 w' x) : RaRow lo hi w' b off n c (fun i => if i = j then x else X i) := by
  refine ⟨Nat.lt_of_lt_of_le h.lt hn.size, h.low, h.bh, h.seg, h.ap, fun i => (hn.frz i).trans (h.frz i), fun i hi' => ?_⟩
  by_cases e : i = j
  · subst e; rw [if_pos rfl]; exact hx
  · rw [if_neg e]
    refine (h.row i hi').near hn (by omega) ?_ (h.seg i hi').2.2
    exact h.ap i j hi' hj e
theorem RaRow.touch {lo hi lo' hi' : Nat} {w w' : World} {b off n : Nat} {c : Nat → Nat × Nat} {X : Nat → Ra} (h : RaRow lo hi w b off n c X) (ht : Touch lo' hi' w w') (ho : hi ≤ lo' ∨ hi' ≤ lo) : RaRow lo hi w' b off n c X := by
  have h1 := h.low
  have h2 := h.bh
  refine ⟨Nat.lt_of_lt_of_le h.lt ht.size, h.low, h.bh, h.seg, h.ap, fun i => (ht.frozen (p := ⟨b, i, none⟩) h.lt (by simp only []; omega)).trans (h.frz i), fun i hi' => ?_⟩
  have h5 := h.seg i hi'
  exact (h.row i hi').touch ht h.lt (by omega) (by omega)
theorem RaRow.below {lo hi : Nat} {w w' : World} {b off n : Nat} {c : Nat → Nat × Nat} {X : Nat → Ra} (h : RaRow lo hi w b off n c X) (ht : Below w.heap.size w w') : RaRow lo hi w' b off n c X :=
  ⟨Nat.lt_of_lt_of_le h.lt ht.size, h.low, h.bh, h.seg, h.ap, fun i => (ht.frozen (p := ⟨b, i, none⟩) h.lt).trans (h.frz i), fun i hi' => (h.row i hi').below ht h.lt⟩
theorem RaRow.to {lo hi : Nat} {w : World} {b off n : Nat} {c : Nat → Nat × Nat} {X Y : Nat → Ra} (h : RaRow lo hi w b off n c X) (e : ∀ i, i < n → X i = Y i) : RaRow lo hi w b off n c Y :=
  ⟨h.lt, h.low, h.bh, h.seg, h.ap, h.frz, fun i hi' => e i hi' ▸ h.row i hi'⟩
/-- a list of one's own -/
def RasOwn (lo hi : Nat) (w : World) (v : Value) (Xl : List Ra) : Prop :=
  (∃ (a : Option Addr) (cap : Nat), v = .slice a 0 cap ∧ Xl = []) ∨
  ∃ (b off cap : Nat) (c : Nat → Nat × Nat) (X : Nat → Ra), v = .slice (some ⟨b, off, none⟩) Xl.length cap ∧ Xl ≠ [] ∧ Xl.length ≤ maxLen ∧ Xl.length ≤ cap ∧ (∀ i (h : i < Xl.length), X i = Xl[i]) ∧ RaRow lo hi w b off Xl.length c X
theorem RasOwn.touch {lo hi lo' hi' : Nat} {w w' : World} {v : Value} {Xl : List Ra} (h : RasOwn lo hi w v Xl) (ht : Touch lo' hi' w w') (ho : hi ≤ lo' ∨ hi' ≤ lo) : RasOwn lo hi w' v Xl := by
  rcases h with h | ⟨b, off, cap, c, X, h1, h2, h3, h4, h5, h6⟩
  · exact Or.inl h
  · exact Or.inr ⟨b, off, cap, c, X, h1, h2, h3, h4, h5, h6.touch ht ho⟩
theorem RasOwn.below {lo hi : Nat} {w w' : World} {v : Value} {Xl : List Ra} (h : RasOwn lo hi w v Xl) (ht : Below w.heap.size w w') : RasOwn lo hi w' v Xl := by
  rcases h with h | ⟨b, off, cap, c, X, h1, h2, h3, h4, h5, h6⟩
  · exact Or.inl h
  · exact Or.inr ⟨b, off, cap, c, X, h1, h2, h3, h4, h5, h6.below ht⟩
theorem RasOwn.form {lo hi : Nat} {w : World} {v : Value} {Xl : List Ra} (h : RasOwn lo hi w v Xl) : ∃ a cap, v = .slice a Xl.length cap := by
  rcases h with ⟨a, cap, h, rfl⟩ | ⟨b, off, cap, c, X, h1, _⟩
  · exact ⟨a, cap, h⟩
  · exact ⟨_, cap, h1⟩
theorem RasOwn.at {lo hi : Nat} {w : World} {v : Value} {Xl : List Ra} (h : RasOwn lo hi w v Xl) : RasAt lo w v Xl := by
  rcases h with h | ⟨b, off, cap, c, X, h1, h2, h3, h4, h5, h6⟩
  · exact Or.inl h
  · refine Or.inr ⟨b, off, cap, h1, h2, h3, h6.lt, h6.low, h4, fun i hi' => ?_⟩
    have hr := h6.row i hi'
    have g0 := h6.seg i hi'
    rw [h5 i hi'] at hr
    obtain ⟨hs, vv0, q0, hc, l0⟩ := hr
    obtain ⟨a0, k0, rfl⟩ := l0.form
    exact ⟨_, hc.rng, a0, k0, rfl, ⟨l0.at.mono (by omega)⟩⟩
/-- marks from k on -/
def mkRa (k : Int) (x : Ra) : Ra := ⟨k, imarks (k + 1) x.fr.length⟩
def wdRa (x : Ra) : Nat := 1 + x.fr.length
def posRa (Xl : List Ra) (i : Nat) : Nat := ((Xl.take i).map wdRa).sum
def mkRas (k : Int) (Xl : List Ra) : List Ra := Xl.mapIdx (fun i x => mkRa (k + (posRa Xl i : Int)) x)
theorem mkRas_len (k : Int) (Xl : List Ra) : (mkRas k Xl).length = Xl.length := by unfold mkRas; simp
theorem mkRas_get (k : Int) (Xl : List Ra) (i : Nat) (h : i < (mkRas k Xl).length) (h' : i < Xl.length) : (mkRas k Xl)[i] = mkRa (k + (posRa Xl i : Int)) Xl[i] := List.getElem_mapIdx (f := fun i x => mkRa (k + (posRa Xl i : Int)) x) (h := h)
theorem posRa_succ {Xl : List Ra} {i : Nat} (h : i < Xl.length) : posRa Xl (i + 1) = posRa Xl i + wdRa Xl[i] := by
  unfold posRa
  rw [List.take_succ_eq_append_getElem h, List.map_append, List.sum_append]
  simp
theorem posRa_le {Xl : List Ra} (hn : RasSmall Xl) : ∀ {i : Nat}, i ≤ Xl.length → posRa Xl i ≤ i * 3000000 := by
  intro i
  induction i with
  | zero => intro _; simp [posRa]
  | succ i ih =>
    intro hi'
    have h1 := ih (by omega)
    rw [posRa_succ (by omega)]
    have h2 : wdRa Xl[i] ≤ 3000000 := by
      have hsm := hn.2 i (by omega)
      unfold RaSmall RisSmall at hsm
      unfold wdRa
      omega
    omega
theorem posRa_all {Xl : List Ra} {i : Nat} (h : Xl.length ≤ i) : posRa Xl i = posRa Xl Xl.length := by
  unfold posRa
  rw [List.take_of_length_le h, List.take_of_length_le (Nat.le_refl _)]
structure RaSt (wr : World) (b o c0 c1 : Nat) (vv0 : Value) (v : World) (y : Ra) : Prop where
  near : Near b o 2 c0 c1 wr v
  bc : b < c0 ∨ c1 ≤ b
  q0 : c0 ≤ c1
  cells : RaCells v b o y vv0
  l0 : RisOwn c0 c1 v vv0 y.fr
  frz : ∀ i, v.frozen? ⟨b, i, none⟩ = false
  lt : b < v.heap.size
theorem RaSt.below {wr : World} {b o c0 c1 : Nat} {vv0 : Value} {v v' : World} {y : Ra} (h : RaSt wr b o c0 c1 vv0 v y) (hb : Below v.heap.size v v') : RaSt wr b o c0 c1 vv0 v' y :=
  ⟨h.near.trans (Near.below hb h.lt), h.bc, h.q0, h.cells.below hb h.lt, h.l0.below hb, fun i => (hb.frozen (p := ⟨b, i, none⟩) h.lt).trans (h.frz i), Nat.lt_of_lt_of_le h.lt hb.size⟩
theorem RaSt.s0 {wr : World} {b o c0 c1 : Nat} {vv0 : Value} {v : World} {y : Ra} (h : RaSt wr b o c0 c1 vv0 v y) (u : Int) : RaSt wr b o c0 c1 vv0 (v.setCell ⟨b, o, none⟩ (.int .i64 u)) { y with ix := u } := by
  obtain ⟨h0, h1⟩ := h.cells
  have ht : Touch b (b + 1) v (v.setCell ⟨b, o, none⟩ (.int .i64 u)) := Touch.setCell _ _ _ _ _ ⟨Nat.le_refl _, by simp only []; omega⟩
  have hbc := h.bc
  have hq0 := h.q0
  exact ⟨h.near.trans (Near.set _ _ _ _ _ _ _ _ (by omega) (by omega)), h.bc, h.q0, ⟨World.cell?_setCell_same' _ _ _ (by rw [h0]; rfl), (cne (by omega)).trans h1⟩, h.l0.touch ht (by omega), fun i => by rw [World.frozen?_setCell]; exact h.frz i, by simpa [World.setCell] using h.lt⟩
theorem RaSt.m0' {wr : World} {b o c0 c1 : Nat} {vv0 : Value} {v v' : World} {y : Ra} (h : RaSt wr b o c0 c1 vv0 v y) (ht : Touch c0 c1 v v') {L : List Int} (hl : RisOwn c0 c1 v' vv0 L) : RaSt wr b o c0 c1 vv0 v' { y with fr := L } := by
  obtain ⟨h0, h1⟩ := h.cells
  have hbc := h.bc
  have hq0 := h.q0
  have hlt := h.lt
  have e : ∀ i, v'.cell? ⟨b, i, none⟩ = v.cell? ⟨b, i, none⟩ := fun i => ht.cell (p := ⟨b, i, none⟩) h.lt (by simp only []; omega)
  exact ⟨h.near.trans (Near.touch ht h.lt (by omega) (by omega) (by omega)), h.bc, h.q0, ⟨(e _).trans h0, (e _).trans h1⟩, hl, fun i => (ht.frozen (p := ⟨b, i, none⟩) h.lt (by simp only []; omega)).trans (h.frz i), Nat.lt_of_lt_of_le h.lt ht.size⟩
end Go.Proofs.Ytfbfgljkiikabaa
namespace Go.Proofs.Ytfbfgljkiikabaa
open Go.RowKit Go.Deep

theorem RssOwn.wide {lo hi lo' hi' : Nat} {w : World} {v : Value} {Xl : List Rs} (h : RssOwn lo hi w v Xl) (h1 : lo' ≤ lo) (h2 : hi ≤ hi') : RssOwn lo' hi' w v Xl := by
  rcases h with h | ⟨b, off, cap, c, X, e1, e2, e3, e4, e5, e6⟩
  · exact Or.inl h
  · exact Or.inr ⟨b, off, cap, c, X, e1, e2, e3, e4, e5, ⟨e6.lt, Nat.le_trans h1 e6.low, e6.bc, Nat.lt_of_lt_of_le e6.bh h2, e6.mono, Nat.le_trans e6.top h2, e6.frz, e6.row⟩⟩
theorem RmsOwn.wide {lo hi lo' hi' : Nat} {w : World} {v : Value} {Xl : List Rm} (h : RmsOwn lo hi w v Xl) (h1 : lo' ≤ lo) (h2 : hi ≤ hi') : RmsOwn lo' hi' w v Xl := by
  rcases h with h | ⟨b, off, cap, c, X, e1, e2, e3, e4, e5, e6⟩
  · exact Or.inl h
  · exact Or.inr ⟨b, off, cap, c, X, e1, e2, e3, e4, e5, ⟨e6.lt, Nat.le_trans h1 e6.low, Nat.lt_of_lt_of_le e6.bh h2, fun i hi' => ⟨Nat.le_trans h1 (e6.seg i hi').1, Nat.le_trans (e6.seg i hi').2.1 h2, (e6.seg i hi').2.2⟩, e6.ap, e6.frz, e6.row⟩⟩
theorem RasOwn.wide {lo hi lo' hi' : Nat} {w : World} {v : Value} {Xl : List Ra} (h : RasOwn lo hi w v Xl) (h1 : lo' ≤ lo) (h2 : hi ≤ hi') : RasOwn lo' hi' w v Xl := by
  rcases h with h | ⟨b, off, cap, c, X, e1, e2, e3, e4, e5, e6⟩
  · exact Or.inl h
  · exact Or.inr ⟨b, off, cap, c, X, e1, e2, e3, e4, e5, ⟨e6.lt, Nat.le_trans h1 e6.low, Nat.lt_of_lt_of_le e6.bh h2, fun i hi' => ⟨Nat.le_trans h1 (e6.seg i hi').1, Nat.le_trans (e6.seg i hi').2.1 h2, (e6.seg i hi').2.2⟩, e6.ap, e6.frz, e6.row⟩⟩
theorem RssOwn.set {lo hi : Nat} {w : World} {v : Value} {Xl : List Rs} (h : RssOwn lo hi w v Xl) {p : Addr} (hp : p.block < lo) (u : Value) : RssOwn lo hi (w.setCell p u) v Xl := h.touch (Touch.setCell p.block (p.block + 1) w p u ⟨Nat.le_refl _, Nat.lt_succ_self _⟩) (Or.inr hp)
theorem RmsOwn.set {lo hi : Nat} {w : World} {v : Value} {Xl : List Rm} (h : RmsOwn lo hi w v Xl) {p : Addr} (hp : p.block < lo) (u : Value) : RmsOwn lo hi (w.setCell p u) v Xl := h.touch (Touch.setCell p.block (p.block + 1) w p u ⟨Nat.le_refl _, Nat.lt_succ_self _⟩) (Or.inr hp)
theorem RasOwn.set {lo hi : Nat} {w : World} {v : Value} {Xl : List Ra} (h : RasOwn lo hi w v Xl) {p : Addr} (hp : p.block < lo) (u : Value) : RasOwn lo hi (w.setCell p u) v Xl := h.touch (Touch.setCell p.block (p.block + 1) w p u ⟨Nat.le_refl _, Nat.lt_succ_self _⟩) (Or.inr hp)
theorem RtsOwn.set {lo hi : Nat} {w : World} {v : Value} {Xl : List ByteArray} (h : RtsOwn lo hi w v Xl) {p : Addr} (hp : p.block < lo) (u : Value) : RtsOwn lo hi (w.setCell p u) v Xl := h.touch (Touch.setCell p.block (p.block + 1) w p u ⟨Nat.le_refl _, Nat.lt_succ_self _⟩) (Or.inr hp)
theorem RisOwn.set {lo hi : Nat} {w : World} {v : Value} {Xl : List Int} (h : RisOwn lo hi w v Xl) {p : Addr} (hp : p.block < lo) (u : Value) : RisOwn lo hi (w.setCell p u) v Xl := h.touch (Touch.setCell p.block (p.block + 1) w p u ⟨Nat.le_refl _, Nat.lt_succ_self _⟩) (Or.inr hp)
end Go.Proofs.Ytfbfgljkiikabaa
namespace Go.Proofs.Ytfbfgljkiikabaa
open Go.RowKit Go.Deep

set_option maxRecDepth 20000 in
set_option maxHeartbeats 16000000 in
theorem toRmO_any (lo : Nat) (cs : List Value) (U : Rm) (w : World) (h : RmC lo w cs U) (hn : RmSmall U) :
    Calls Try.prog 69 #[.agg cs.toArray] w
      fun e w' => ∃ b0 m0, e = .returned (.agg (rmL U b0 m0).toArray) ∧ Below w.heap.size w w' ∧ RssOwn w.heap.size w'.heap.size w' (.slice b0 U.sl.length m0) U.sl := by
  obtain ⟨a0, k0, rfl, h⟩ := h
  show Calls Try.prog 69 #[.agg #[.int .i64 U.kd, .int .i64 U.fr, .int .i64 U.tt, .int .i64 U.ba, .int .i64 U.ix, .int .i64 U.kn, .string U.tx, .slice a0 U.sl.length k0]] w _
  have HL := hide h
  have hn0 := hn
  clear h
  go_enter Try.func69, Try.ntmps69
  go_wp2_with fail
  obtain ⟨wz, hwz, FX, FR, FO, HB⟩ : ∃ wz, wz = ((w.alloc (.cells #[.int .i64 U.kd, .int .i64 U.fr, .int .i64 U.tt, .int .i64 U.ba, .int .i64 U.ix, .int .i64 U.kn, .string U.tx, .slice a0 U.sl.length k0] 81)).alloc (.cells #[.int .i64 0, .int .i64 0, .int .i64 0, .int .i64 0, .int .i64 0, .int .i64 0, .string ⟨#[]⟩, .slice none 0 0] 92)).alloc (.cells #[.int .i64 U.kd, .int .i64 U.fr, .int .i64 U.tt, .int .i64 U.ba, .int .i64 U.ix, .int .i64 U.kn, .string U.tx, .slice none 0 0] 92) ∧
      Hid (Box wz w.heap.size #[.int .i64 U.kd, .int .i64 U.fr, .int .i64 U.tt, .int .i64 U.ba, .int .i64 U.ix, .int .i64 U.kn, .string U.tx, .slice a0 U.sl.length k0]) ∧ Hid (Box wz (w.heap.size + 1) #[.int .i64 0, .int .i64 0, .int .i64 0, .int .i64 0, .int .i64 0, .int .i64 0, .string ⟨#[]⟩, .slice none 0 0]) ∧ Hid (Box wz (w.heap.size + 1 + 1) #[.int .i64 U.kd, .int .i64 U.fr, .int .i64 U.tt, .int .i64 U.ba, .int .i64 U.ix, .int .i64 U.kn, .string U.tx, .slice none 0 0]) ∧ Hid (Below w.heap.size w wz) :=
    ⟨_, rfl, ((Box.new w _ _ _ rfl).on (one_al _ _)).on (one_al _ _), (Box.new _ _ _ _ (by simp)).on (one_al _ _), Box.new _ _ _ _ (by simp), ((one_al _ _).trans ((one_al _ _).mono (by simp))).trans ((one_al _ _).mono (by simp; omega))⟩
  rw [← hwz]
  clear hwz
  generalize wz = v0 at *
  have hz0 : w.heap.size + 3 ≤ v0.heap.size := by have := FO.out.lt; omega
  refine (toRssO_any lo _ U.sl _ ((HL.out.below HB.out).l0) hn0).mono ?_
  rintro e x0 ⟨u, rfl, hb, hs⟩
  obtain ⟨b0, m0, rfl⟩ := hs.form
  have N0 := hide (hs.wide hz0 (Nat.le_refl _))
  replace FX := hide (FX.out.on hb)
  replace FR := hide (FR.out.on hb)
  replace FO := hide (FO.out.on hb)
  replace HB := hide (bt HB.out hb)
  clear hb hs hz0
  have g0 := FO.out.cell
  have g1 := FO.out.free
  have g2 := FR.out.cell
  have g3 := FR.out.free
  have g4 := FX.out.cell
  go_wp2
  refine bodyPost_ret (v := .agg #[.int .i64 U.kd, .int .i64 U.fr, .int .i64 U.tt, .int .i64 U.ba, .int .i64 U.ix, .int .i64 U.kn, .string U.tx, .slice b0 U.sl.length m0]) (by simp [results, Try.results69, go_sem, g2]) rfl ⟨b0, m0, rfl, ?_, ?_⟩
  · repeat (refine Below.setCell ?_ (by simp only []; omega) _)
    exact HB.out
  · refine RssOwn.wide (lo := w.heap.size + 3) (hi := x0.heap.size) ?_ (by omega) (by simp [World.setCell])
    repeat (refine RssOwn.set ?_ (by simp only []; omega) _)
    exact N0.out
end Go.Proofs.Ytfbfgljkiikabaa
