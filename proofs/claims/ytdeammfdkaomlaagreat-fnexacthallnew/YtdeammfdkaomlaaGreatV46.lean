import Derived.Test.YtdeammfdkaomlaaGreatV44
import Derived.Test.YtdeammfdkaomlaaGreatV45
namespace Go.Proofs.YtdeammfdkaomlaaGreat
open Go.RowKit Go.Deep

/-! rows that grow and may be nil; rows whose things have lists of their own inside -/
def NRow {X : Type} (f : X → List Value) (n : Nat) (w : World) (lo hi : Nat) (v : Value) (L : List X) : Prop := (v = .slice none 0 0 ∧ L = []) ∨ FRow f n w lo hi v L
theorem NRow.below {X : Type} {f : X → List Value} {n : Nat} {w w' : World} {lo hi : Nat} {v : Value} {L : List X} (h : NRow f n w lo hi v L) (hb : Below w.heap.size w w') : NRow f n w' lo hi v L := h.imp id fun h => h.below hb
theorem NRow.touch {X : Type} {f : X → List Value} {n : Nat} {w w' : World} {lo hi lo' hi' : Nat} {v : Value} {L : List X} (h : NRow f n w lo hi v L) (ht : Touch lo' hi' w w') (ho : hi ≤ lo' ∨ hi' ≤ lo) : NRow f n w' lo hi v L := h.imp id fun h => h.touch ht ho
theorem NRow.wide {X : Type} {f : X → List Value} {n : Nat} {w : World} {lo hi lo' hi' : Nat} {v : Value} {L : List X} (h : NRow f n w lo hi v L) (h1 : lo' ≤ lo) (h2 : hi ≤ hi') : NRow f n w lo' hi' v L := h.imp id fun h => h.wide h1 h2
theorem NRow.set {X : Type} {f : X → List Value} {n : Nat} {w : World} {lo hi : Nat} {v : Value} {L : List X} (h : NRow f n w lo hi v L) {p : Addr} (hp : p.block < lo) (u : Value) : NRow f n (w.setCell p u) lo hi v L :=
  h.touch (Touch.setCell p.block (p.block + 1) w p u ⟨Nat.le_refl _, Nat.lt_succ_self _⟩) (Or.inr hp)
theorem NRow.form {X : Type} {f : X → List Value} {n : Nat} {w : World} {lo hi : Nat} {v : Value} {L : List X} (h : NRow f n w lo hi v L) : ∃ a c, v = .slice a L.length c := by
  rcases h with ⟨h, rfl⟩ | ⟨g, cap, h, _⟩
  · exact ⟨none, 0, h⟩
  · exact ⟨_, _, h⟩
theorem NRow.nil {X : Type} (f : X → List Value) (n : Nat) (w : World) (lo hi : Nat) : NRow f n w lo hi (.slice none 0 0) [] := Or.inl ⟨rfl, rfl⟩
theorem run_nilapp {P : Program} (w : World) (t ty e : TypeId) (i : TypeInfo) (z : Value) (size bytes : Nat) (ht : P.underlying t = some (.slice e)) (hi : P.info? e = some i) (hz : i.zero = some z)
    (hsize : i.size = size) (hby : i.bytes = bytes) (hzs : z.cells.size = size) (a : Addr) (m c : Nat) (news : List Value) (hl : news.length = m * size) (hnews : ∀ j u, news[j]? = some u → w.cell? (a.add j) = some u)
    (h0 : 0 < m) (h63 : m ≤ maxLen) (hbytes : m * bytes ≤ 140737488355328) :
    ∃ v' w', (Builtin.append_ #[t, t] ty #[.slice none 0 0, .slice (some a) m c]).run P w = .ok v' w' ∧ w'.ownsRow w.heap.size e size v' m news ∧ Below w.heap.size w w' := by
  subst hsize
  subst hby
  have hsmall : m ≤ 9223372036854775807 := by simp only [maxLen] at h63; omega
  have hge := grownCap_ge w m 0 e
  have hcm : grownCap w m 0 e ≤ maxLen := grownCap_le_maxLen w m 0 e h63
  have hr := run_append_nil (P := P) w t ty e i z ht hi hz a m c news hl hnews h0 (by omega) (by omega)
  refine ⟨_, _, hr, ⟨hl, .inr ⟨w.heap.size, _, _, rfl, Nat.le_refl _, heap_alloc_new w.drew _, hge, hcm, ?_, ?_⟩⟩, ⟨rfl, rfl, rfl, by simp, fun k hk => heap_alloc_old w.drew _ hk⟩⟩
  · simp only [Array.size_append, List.size_toArray, size_zeroCells, hzs, hl, ← Nat.add_mul]
    congr 1
    omega
  · simp only [Array.toList_append]
    rw [← hl]
    exact List.take_left
/-- append to a row that grows or is nil: where it moves or is new, it lies behind all that is there -/
theorem run_nr {X : Type} {f : X → List Value} {n bytes : Nat} (hf : ∀ x, (f x).length = n) (hn : 0 < n) {t e : TypeId} {z : Value} (ht : Tryz.prog.underlying t = some (.slice e)) (hi : (Tryz.prog.info? e).map (fun i => (i.zero, i.size, i.bytes)) = some (some z, n, bytes)) (hzs : z.cells.size = n)
    {w : World} {lo hi' : Nat} {v : Value} {L M : List X} (ty : TypeId) (h : NRow f n w lo hi' v L) (ao : Option Addr) (m c : Nat) (hM : m = M.length) (hm : ao = none → m = 0)
    (hsrc : ∀ ad, ao = some ad → ∀ j u, (flatV f M)[j]? = some u → w.cell? (ad.add j) = some u) (h1 : ∀ u ∈ flatV f M, u.oneCell' = true) (hb : L.length + M.length ≤ 10000000) (hby : bytes ≤ 1000000) :
    ∃ v' w', (Builtin.append_ #[t, t] ty #[v, .slice ao m c]).run Tryz.prog w = .ok v' w' ∧ Touch lo hi' w w' ∧ (NRow f n w' lo hi' v' (L ++ M) ∨ NRow f n w' w.heap.size w'.heap.size v' (L ++ M)) := by
  rcases h with ⟨rfl, rfl⟩ | h
  · have hex : ∃ i, Tryz.prog.info? e = some i ∧ i.zero = some z ∧ i.size = n ∧ i.bytes = bytes := by
      cases hh : Tryz.prog.info? e with
      | none => rw [hh] at hi; simp at hi
      | some i =>
        rw [hh] at hi
        simp only [Option.map_some, Option.some.injEq, Prod.mk.injEq] at hi
        exact ⟨i, rfl, hi.1, hi.2.1, hi.2.2⟩
    obtain ⟨i0, hi0, hz0, hz1, hz2⟩ := hex
    have hlm : (flatV f M).length = M.length * n := flatV_len hf M
    subst hM
    simp only [List.length_nil, Nat.zero_add] at hb
    by_cases h0 : M.length = 0
    · obtain rfl : M = [] := List.eq_nil_of_length_eq_zero h0
      refine ⟨.slice none 0 0, w, ?_, Touch.refl _ _ _, Or.inl (Or.inl ⟨rfl, rfl⟩)⟩
      cases ao with
      | none => simp [Builtin.append_, run_underlying ht, sizeOf, typeInfo, hi0, Builtin.lenOf, Builtin.firstCells]
      | some ad => simp [Builtin.append_, run_underlying ht, sizeOf, typeInfo, hi0, Builtin.lenOf, Builtin.firstCells, loadCells, loadCellsFrom]
    · cases ao with
      | none => exact absurd (hm rfl) h0
      | some ad =>
        obtain ⟨v', w', h2, h3, h4⟩ := run_nilapp (P := Tryz.prog) w t ty e i0 z n bytes ht hi0 hz0 hz1 hz2 hzs ad M.length c (flatV f M) hlm (hsrc ad rfl) (by omega) (by unfold maxLen; omega) (by
            have := Nat.mul_le_mul hb hby
            omega)
        exact ⟨v', w', h2, Touch.below h4, Or.inr (Or.inr (owns_fr hf h3 rfl (by omega)))⟩
  · obtain ⟨v', w', h2, h3, h4⟩ := run_fr hf hn ht hi hzs ty h ao m c hM hm hsrc h1 hb hby
    exact ⟨v', w', h2, h3, h4.imp Or.inr Or.inr⟩
end Go.Proofs.YtdeammfdkaomlaaGreat
