
import Derived.Test.YtoklnkojacdciaaZT
import Derived.Maps.AppendAt
import Derived.ArgAppend
namespace Go.Proofs.Ytoklnkojacdciaa
open Go.RowKit Go.Deep

/-- the cells of a list, one thing behind the other -/
def flatV {X : Type} (f : X → List Value) : List X → List Value
  | [] => []
  | x :: r => f x ++ flatV f r
theorem flatV_len {X : Type} {f : X → List Value} {n : Nat} (h : ∀ x, (f x).length = n) : ∀ L : List X, (flatV f L).length = L.length * n
  | [] => by simp [flatV]
  | x :: r => by rw [flatV, List.length_append, h, flatV_len h r, List.length_cons, Nat.succ_mul, Nat.add_comm]
theorem flatV_get {X : Type} {f : X → List Value} {n : Nat} (h : ∀ x, (f x).length = n) : ∀ (L : List X) (i t : Nat) (hi : i < L.length), t < n → (flatV f L)[i * n + t]? = (f L[i])[t]?
  | [], i, t, hi, _ => by simp at hi
  | x :: r, 0, t, hi, ht => by
    rw [flatV, Nat.zero_mul, Nat.zero_add, List.getElem?_append_left (by rw [h]; exact ht)]
    rfl
  | x :: r, i + 1, t, hi, ht => by
    rw [flatV, List.getElem?_append_right (by rw [h, Nat.succ_mul]; omega), h, show (i + 1) * n + t - n = i * n + t by rw [Nat.succ_mul]; omega, flatV_get h r i t (by simpa using hi) ht]
    rfl
theorem flatV_app {X : Type} {f : X → List Value} : ∀ A B : List X, flatV f (A ++ B) = flatV f A ++ flatV f B
  | [], B => rfl
  | x :: r, B => by rw [List.cons_append, flatV, flatV, flatV_app r B, List.append_assoc]
theorem flatV_at {X : Type} {f : X → List Value} {n : Nat} (hn : 0 < n) (h : ∀ x, (f x).length = n) {L : List X} {j : Nat} {u : Value} (hj : (flatV f L)[j]? = some u) : ∃ (hi : j / n < L.length), (f L[j / n])[j % n]? = some u := by
  have hlt : j < L.length * n := by
    rw [← flatV_len h L]
    exact (List.getElem?_eq_some_iff.1 hj).1
  have hi : j / n < L.length := (Nat.div_lt_iff_lt_mul hn).2 hlt
  refine ⟨hi, ?_⟩
  rw [← flatV_get h L (j / n) (j % n) hi (Nat.mod_lt _ hn), Nat.mul_comm, Nat.div_add_mod]
  exact hj
theorem flatV_mem {X : Type} {f : X → List Value} {L : List X} {u : Value} (hu : u ∈ flatV f L) : ∃ x ∈ L, u ∈ f x := by
  induction L with
  | nil => cases hu
  | cons x r ih =>
    rw [flatV, List.mem_append] at hu
    rcases hu with hu | hu
    · exact ⟨x, List.mem_cons_self .., hu⟩
    · obtain ⟨y, hy, h⟩ := ih hu
      exact ⟨y, List.mem_cons_of_mem _ hy, h⟩
/-- what a row that was made anew holds -/
theorem frozen_none {w : World} {g : Nat} {cur : Array Value} {e : TypeId} (h : w.heap[g]? = some (.cells cur e (0, 0))) (i : Nat) : w.frozen? ⟨g, i, none⟩ = false := by
  simp [World.frozen?, h]
theorem cell_heap {w : World} {g : Nat} {cur : Array Value} {e : TypeId} {fz : Nat × Nat} (h : w.heap[g]? = some (.cells cur e fz)) (i : Nat) : w.cell? ⟨g, i, none⟩ = cur[i]? := by
  simp [World.cell?, h]
theorem flatV_take {X : Type} {f : X → List Value} {L : List X} {n j : Nat} {u : Value} (h : (flatV f (L.take n))[j]? = some u) : (flatV f L)[j]? = some u := by
  have e : flatV f L = flatV f (L.take n) ++ flatV f (L.drop n) := by rw [← flatV_app, List.take_append_drop]
  rw [e, List.getElem?_append_left (List.getElem?_eq_some_iff.1 h).1]
  exact h
theorem flatV_drop {X : Type} {f : X → List Value} {s : Nat} (hs : ∀ x, (f x).length = s) {L : List X} {n j : Nat} {u : Value} (hn : n ≤ L.length) (h : (flatV f (L.drop n))[j]? = some u) : (flatV f L)[n * s + j]? = some u := by
  have e : flatV f L = flatV f (L.take n) ++ flatV f (L.drop n) := by rw [← flatV_app, List.take_append_drop]
  have hl : (flatV f (L.take n)).length = n * s := by rw [flatV_len hs, List.length_take, Nat.min_eq_left hn]
  rw [e, List.getElem?_append_right (by omega), hl, show n * s + j - n * s = j by omega]
  exact h
theorem wpList_append_run {P : Program} {w w' : World} {v v1 v2 : Value} {ops : Array Oper} {rest : List Oper} {o : Oper} {a : Act} {Q : Exit → Act → World → Prop} (hgd : o.guard = none) (s x : Operand) (t : TypeId)
    (ho : o.op = .call { callee := .builtin .append, args := #[s, x], argTypes := #[t, t] }) (hs : a.eval s = v1) (hx : a.eval x = v2) (hr : (Builtin.append_ #[t, t] o.type #[v1, v2]).run P w = .ok v w')
    (h : wpList P ops Q rest (a.put o.dst v) w') : wpList P ops Q (o :: rest) a w := by
  refine wpList_plain hgd fun K hK => ?_
  unfold Oper.wp execOp
  simp only [ho, resolve, invoke, builtin, Sem.run_bind, Sem.run_pure, Result.andThen_ok, List.map_toArray, List.map_cons, List.map_nil, hs, hx, hr]
  exact hK _ _ h
end Go.Proofs.Ytoklnkojacdciaa
