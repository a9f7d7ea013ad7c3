import Derived.Test.YtaogpeebencnoaaGreatDoorA16
import Derived.Maps.AppendAt
import Derived.Deep.RegionHeldLaw
namespace Go.Proofs.YtaogpeebencnoaaGreatDoor
open Go.RowKit Go.Deep

/-- the cells of a list, one thing behind the other -/
def flatV {X : Type} (f : X → List Value) : List X → List Value
  | [] => []
  | x :: r => f x ++ flatV f r
theorem flatV_len {X : Type} {f : X → List Value} {n : Nat} (h : ∀ x, (f x).length = n) : ∀ L : List X, (flatV f L).length = L.length * n
  | [] => by simp [flatV]
  | x :: r => by rw [flatV, List.length_append, h, flatV_len h r, List.length_cons, Nat.succ_mul, Nat.add_comm]
theorem flatV_get {X : Type} {f : X → List Value} {n : Nat} (h : ∀ x, (f x).length = n) : ∀ (L : List X) (i t : Nat) (hi : i < L.length), t < n → (flatV f L)[i * n + t]? = (f L[i])[t]?
  | [], i, t, hi, _ => by simp at hi
  | x :: r, 0, t, hi, ht => by
    rw [flatV, Nat.zero_mul, Nat.zero_add, List.getElem?_append_left (by rw [h]; exact ht)]
    rfl
  | x :: r, i + 1, t, hi, ht => by
    rw [flatV, List.getElem?_append_right (by rw [h, Nat.succ_mul]; omega), h, show (i + 1) * n + t - n = i * n + t by rw [Nat.succ_mul]; omega, flatV_get h r i t (by simpa using hi) ht]
    rfl
theorem flatV_app {X : Type} {f : X → List Value} : ∀ A B : List X, flatV f (A ++ B) = flatV f A ++ flatV f B
  | [], B => rfl
  | x :: r, B => by rw [List.cons_append, flatV, flatV, flatV_app r B, List.append_assoc]
theorem flatV_at {X : Type} {f : X → List Value} {n : Nat} (hn : 0 < n) (h : ∀ x, (f x).length = n) {L : List X} {j : Nat} {u : Value} (hj : (flatV f L)[j]? = some u) : ∃ (hi : j / n < L.length), (f L[j / n])[j % n]? = some u := by
  have hlt : j < L.length * n := by
    rw [← flatV_len h L]
    exact (List.getElem?_eq_some_iff.1 hj).1
  have hi : j / n < L.length := (Nat.div_lt_iff_lt_mul hn).2 hlt
  refine ⟨hi, ?_⟩
  rw [← flatV_get h L (j / n) (j % n) hi (Nat.mod_lt _ hn), Nat.mul_comm, Nat.div_add_mod]
  exact hj
theorem flatV_mem {X : Type} {f : X → List Value} {L : List X} {u : Value} (hu : u ∈ flatV f L) : ∃ x ∈ L, u ∈ f x := by
  induction L with
  | nil => cases hu
  | cons x r ih =>
    rw [flatV, List.mem_append] at hu
    rcases hu with hu | hu
    · exact ⟨x, List.mem_cons_self .., hu⟩
    · obtain ⟨y, hy, h⟩ := ih hu
      exact ⟨y, List.mem_cons_of_mem _ hy, h⟩
/-- what a row that was made anew holds -/
def NewRow (base : Nat) (w' : World) (e : TypeId) (size m : Nat) (v' : Value) (news : List Value) : Prop := (m = 0 ∧ ∃ a c, v' = .slice a 0 c) ∨ w'.ownsRow base e size v' m news
theorem run_append_fresh {P : Program} (w : World) (t ty e : TypeId) (i : TypeInfo) (z : Value) (size bytes : Nat) (ht : P.underlying t = some (.slice e)) (hi : P.info? e = some i) (hz : i.zero = some z)
    (hsize : i.size = size) (hby : i.bytes = bytes) (hzs : z.cells.size = size) (hsz : 0 < size) (g : Addr) (ao : Option Addr) (m c : Nat) (news : List Value) (hl : news.length = m * size) (hm : ao = none → m = 0)
    (hnews : ∀ ad, ao = some ad → ∀ j u, news[j]? = some u → w.cell? (ad.add j) = some u) (h63 : m ≤ maxLen) (hbytes : m * bytes ≤ 140737488355328) :
    ∃ v' w', (Builtin.append_ #[t, t] ty #[.slice (some g) 0 0, .slice ao m c]).run P w = .ok v' w' ∧ NewRow w.heap.size w' e size m v' news ∧ Below w.heap.size w w' := by
  by_cases h0 : m = 0
  · subst h0
    refine ⟨.slice (some g) 0 0, w, ?_, Or.inl ⟨rfl, _, _, rfl⟩, Below.refl _ _⟩
    cases ao with
    | none => simp [Builtin.append_, run_underlying ht, sizeOf, typeInfo, hi, Builtin.lenOf, Builtin.firstCells, storeCells]
    | some ad => simp [Builtin.append_, run_underlying ht, sizeOf, typeInfo, hi, Builtin.lenOf, Builtin.firstCells, loadCells, loadCellsFrom, storeCells]
  · cases ao with
    | none => exact absurd (hm rfl) h0
    | some ad =>
      subst hsize
      subst hby
      have hsmall : m ≤ 9223372036854775807 := by simp only [maxLen] at h63; omega
      have hr := run_append_grow (P := P) w t ty e i z ht hi hz g 0 0 [] (by simp) (fun j u h => by simp at h) ad m c news hl (hnews ad rfl) (by omega) (by omega) (growslice_fits (by omega) (by simpa using hbytes))
      have hge := grownCap_ge w (0 + m) 0 e
      have hcm : grownCap w (0 + m) 0 e ≤ maxLen := grownCap_le_maxLen w (0 + m) 0 e (by simpa using h63)
      refine ⟨_, _, hr, Or.inr ⟨hl, .inr ⟨w.heap.size, _, _, by rw [Nat.zero_add], Nat.le_refl _, heap_alloc_new w.drew _, by simpa using hge, hcm, ?_, ?_⟩⟩, (Below.refl _ _).drew.alloc (Nat.le_refl _) _⟩
      · simp only [Nat.zero_add] at hge ⊢
        simp only [Array.size_append, List.size_toArray, size_zeroCells, hzs, hl, List.length_nil, Nat.zero_add, ← Nat.add_mul]
        congr 1
        omega
      · simp only [Array.toList_append, List.nil_append]
        rw [← hl]
        exact List.take_left
theorem step_append_fresh {P : Program} {w : World} {ops : Array Oper} {o : Oper} {a : Act} {K : Act → World → Prop} {Q : Exit → Act → World → Prop} {E : Prop} (hgd : o.guard = none) (s x : Operand) (t : TypeId)
    (ho : o.op = .call { callee := .builtin .append, args := #[s, x], argTypes := #[t, t] })
    (e : TypeId) (i : TypeInfo) (z : Value) (size bytes : Nat) (ht : P.underlying t = some (.slice e)) (hi : P.info? e = some i) (hz : i.zero = some z)
    (hsize : i.size = size) (hby : i.bytes = bytes) (hzs : z.cells.size = size) (hsz : 0 < size)
    (g : Addr) (hs : a.eval s = .slice (some g) 0 0)
    (ao : Option Addr) (m c : Nat) (news : List Value) (hx : a.eval x = .slice ao m c) (hl : news.length = m * size) (hm : ao = none → m = 0) (hnews : ∀ ad, ao = some ad → ∀ j u, news[j]? = some u → w.cell? (ad.add j) = some u)
    (h63 : m ≤ maxLen) (hbytes : m * bytes ≤ 140737488355328)
    (h : ∀ v' w', NewRow w.heap.size w' e size m v' news → Below w.heap.size w w' → K (a.put o.dst v') w') :
    if Region.wanted o (yielded ops a.tmps) = true then Oper.wp P o a w K Q else E := by
  have hw : Region.wanted o (yielded ops a.tmps) = true := by simp [Region.wanted, hgd]
  rw [if_pos hw]
  obtain ⟨v', w', hr, h2, h3⟩ := run_append_fresh (P := P) w t o.type e i z size bytes ht hi hz hsize hby hzs hsz g ao m c news hl hm hnews h63 hbytes
  unfold Oper.wp execOp
  simp only [ho, resolve, invoke, builtin, Sem.run_bind, Sem.run_pure, Result.andThen_ok, List.map_toArray, List.map_cons, List.map_nil, hs, hx, hr]
  exact h v' w' h2 h3
theorem frozen_none {w : World} {g : Nat} {cur : Array Value} {e : TypeId} (h : w.heap[g]? = some (.cells cur e (0, 0))) (i : Nat) : w.frozen? ⟨g, i, none⟩ = false := by
  simp [World.frozen?, h]
theorem cell_heap {w : World} {g : Nat} {cur : Array Value} {e : TypeId} {fz : Nat × Nat} (h : w.heap[g]? = some (.cells cur e fz)) (i : Nat) : w.cell? ⟨g, i, none⟩ = cur[i]? := by
  simp [World.cell?, h]
def cpL (x : Cp) : List Value := [.string x.se, .int .i64 x.nu, .int .i64 x.ve, .int .i64 x.im, .int .i64 x.st, .bool x.en, .string x.be]
def beL (x : Be) : List Value := [.string x.nm, .bool x.dr]
theorem CpCells.rng {w : World} {b o : Nat} {x : Cp} (h : CpCells w b o x) : w.rangeAt b o (cpL x) := fun j v hv => by
  match j, hv with
  | 0, hv => cases hv; exact h.c0
  | 1, hv => cases hv; exact h.c1
  | 2, hv => cases hv; exact h.c2
  | 3, hv => cases hv; exact h.c3
  | 4, hv => cases hv; exact h.c4
  | 5, hv => cases hv; exact h.c5
  | 6, hv => cases hv; exact h.c6
theorem BeCells.rng {w : World} {b o : Nat} {x : Be} (h : BeCells w b o x) : w.rangeAt b o (beL x) := fun j v hv => by
  match j, hv with
  | 0, hv => cases hv; exact h.c0
  | 1, hv => cases hv; exact h.c1
theorem svL_len (x : Sv) : (svL x).length = 13 := rfl
theorem SvsAt.news {lo : Nat} {w W : World} {ao : Option Addr} {m cap : Nat} {Xl : List Sv} (h : SvsAt lo w (.slice ao m cap) Xl) (hb : Below w.heap.size w W) : ∀ ad, ao = some ad → ∀ j u, (flatV svL Xl)[j]? = some u → W.cell? (ad.add j) = some u := by
  intro ad he j u hj
  subst he
  obtain ⟨hi, hu⟩ := flatV_at (by decide) svL_len hj
  obtain ⟨b, off, h1, hbw, -, hc⟩ := h.full' (by omega)
  cases h1
  have := ((hc (j / 13) hi).2.below hb hbw).rng (j % 13) u hu
  rw [Go.WideShapes.add_plain]
  rw [← this]
  congr 2
  omega
theorem SvsAt.nil {lo : Nat} {w : World} {m cap : Nat} {Xl : List Sv} (h : SvsAt lo w (.slice none m cap) Xl) : Xl.length = 0 := by
  by_cases h0 : 0 < Xl.length
  · obtain ⟨b, off, h1, _⟩ := h.full' h0
    cases h1
  · omega
theorem SvsAt.sizes {lo : Nat} {w : World} {v : Value} {Xl : List Sv} (h : SvsAt lo w v Xl) : ∀ i (hi : i < Xl.length), SvSize Xl[i] := fun i hi => by
  obtain ⟨a, cap, rfl⟩ := h.form
  obtain ⟨b, off, h1, hbw, -, hc⟩ := h.full' (by omega)
  exact (hc i hi).1
theorem NewRow.Svs {base : Nat} {w' : World} {v' : Value} {Xl : List Sv} (h : NewRow base w' 88 13 Xl.length v' (flatV svL Xl)) (hm : Xl.length ≤ maxLen) (hz : ∀ i (hi : i < Xl.length), SvSize Xl[i]) : SvsOwn base w'.heap.size w' v' Xl := by
  by_cases h0 : Xl.length = 0
  · have hx : Xl = [] := List.length_eq_zero_iff.1 h0
    rcases h with ⟨-, a, c, rfl⟩ | ⟨-, ⟨rfl, -⟩ | ⟨g, cap, cur, rfl, -⟩⟩
    · exact Or.inl ⟨_, _, rfl, hx⟩
    · exact Or.inl ⟨_, _, rfl, hx⟩
    · exact Or.inl ⟨_, _, by rw [h0], hx⟩
  · rcases h with ⟨h, -⟩ | ⟨hl, ⟨-, h⟩ | ⟨g, cap, cur, rfl, hbg, hg, hnc, hcm, hcs, htake⟩⟩
    · exact absurd h h0
    · exact absurd h h0
    · have hlt : g < w'.heap.size := (Array.getElem?_eq_some_iff.1 hg).1
      refine Or.inr ⟨g, 0, cap, fun _ => g + 1, fun i => if h : i < Xl.length then Xl[i] else Xl[0]'(by omega), rfl, fun e => h0 (by rw [e]; rfl), hm, hnc, fun i hi => by simp [hi], ⟨hlt, hbg, Nat.lt_succ_self _, hlt, fun _ _ => Nat.le_refl _, hlt, frozen_none hg, fun i hi => ?_⟩⟩
      simp only [hi, dif_pos]
      have hc : ∀ t v, (svL Xl[i])[t]? = some v → w'.cell? ⟨g, 0 + i * 13 + t, none⟩ = some v := fun t v hv => by
        have ht : t < 13 := by have := (List.getElem?_eq_some_iff.1 hv).1; rwa [svL_len] at this
        rw [cell_heap hg, Nat.zero_add, ← Array.getElem?_toList]
        have h1 := flatV_get svL_len Xl i t hi ht
        rw [hv, ← htake, List.getElem?_take] at h1
        split at h1
        · exact h1
        · cases h1
      exact ⟨hz i hi, ⟨hc 0 _ rfl, hc 1 _ rfl, hc 2 _ rfl, hc 3 _ rfl, hc 4 _ rfl, hc 5 _ rfl, hc 6 _ rfl, hc 7 _ rfl, hc 8 _ rfl, hc 9 _ rfl, hc 10 _ rfl, hc 11 _ rfl, hc 12 _ rfl⟩⟩
theorem cpL_len (x : Cp) : (cpL x).length = 7 := rfl
theorem CpsAt.news {lo : Nat} {w W : World} {ao : Option Addr} {m cap : Nat} {Xl : List Cp} (h : CpsAt lo w (.slice ao m cap) Xl) (hb : Below w.heap.size w W) : ∀ ad, ao = some ad → ∀ j u, (flatV cpL Xl)[j]? = some u → W.cell? (ad.add j) = some u := by
  intro ad he j u hj
  subst he
  obtain ⟨hi, hu⟩ := flatV_at (by decide) cpL_len hj
  obtain ⟨b, off, h1, hbw, -, hc⟩ := h.full' (by omega)
  cases h1
  have := ((hc (j / 7) hi).2.below hb hbw).rng (j % 7) u hu
  rw [Go.WideShapes.add_plain]
  rw [← this]
  congr 2
  omega
theorem CpsAt.nil {lo : Nat} {w : World} {m cap : Nat} {Xl : List Cp} (h : CpsAt lo w (.slice none m cap) Xl) : Xl.length = 0 := by
  by_cases h0 : 0 < Xl.length
  · obtain ⟨b, off, h1, _⟩ := h.full' h0
    cases h1
  · omega
theorem CpsAt.sizes {lo : Nat} {w : World} {v : Value} {Xl : List Cp} (h : CpsAt lo w v Xl) : ∀ i (hi : i < Xl.length), CpSize Xl[i] := fun i hi => by
  obtain ⟨a, cap, rfl⟩ := h.form
  obtain ⟨b, off, h1, hbw, -, hc⟩ := h.full' (by omega)
  exact (hc i hi).1
theorem NewRow.Cps {base : Nat} {w' : World} {v' : Value} {Xl : List Cp} (h : NewRow base w' 92 7 Xl.length v' (flatV cpL Xl)) (hm : Xl.length ≤ maxLen) (hz : ∀ i (hi : i < Xl.length), CpSize Xl[i]) : CpsOwn base w'.heap.size w' v' Xl := by
  by_cases h0 : Xl.length = 0
  · have hx : Xl = [] := List.length_eq_zero_iff.1 h0
    rcases h with ⟨-, a, c, rfl⟩ | ⟨-, ⟨rfl, -⟩ | ⟨g, cap, cur, rfl, -⟩⟩
    · exact Or.inl ⟨_, _, rfl, hx⟩
    · exact Or.inl ⟨_, _, rfl, hx⟩
    · exact Or.inl ⟨_, _, by rw [h0], hx⟩
  · rcases h with ⟨h, -⟩ | ⟨hl, ⟨-, h⟩ | ⟨g, cap, cur, rfl, hbg, hg, hnc, hcm, hcs, htake⟩⟩
    · exact absurd h h0
    · exact absurd h h0
    · have hlt : g < w'.heap.size := (Array.getElem?_eq_some_iff.1 hg).1
      refine Or.inr ⟨g, 0, cap, fun _ => g + 1, fun i => if h : i < Xl.length then Xl[i] else Xl[0]'(by omega), rfl, fun e => h0 (by rw [e]; rfl), hm, hnc, fun i hi => by simp [hi], ⟨hlt, hbg, Nat.lt_succ_self _, hlt, fun _ _ => Nat.le_refl _, hlt, frozen_none hg, fun i hi => ?_⟩⟩
      simp only [hi, dif_pos]
      have hc : ∀ t v, (cpL Xl[i])[t]? = some v → w'.cell? ⟨g, 0 + i * 7 + t, none⟩ = some v := fun t v hv => by
        have ht : t < 7 := by have := (List.getElem?_eq_some_iff.1 hv).1; rwa [cpL_len] at this
        rw [cell_heap hg, Nat.zero_add, ← Array.getElem?_toList]
        have h1 := flatV_get cpL_len Xl i t hi ht
        rw [hv, ← htake, List.getElem?_take] at h1
        split at h1
        · exact h1
        · cases h1
      exact ⟨hz i hi, ⟨hc 0 _ rfl, hc 1 _ rfl, hc 2 _ rfl, hc 3 _ rfl, hc 4 _ rfl, hc 5 _ rfl, hc 6 _ rfl⟩⟩
theorem beL_len (x : Be) : (beL x).length = 2 := rfl
theorem BesAt.news {lo : Nat} {w W : World} {ao : Option Addr} {m cap : Nat} {Xl : List Be} (h : BesAt lo w (.slice ao m cap) Xl) (hb : Below w.heap.size w W) : ∀ ad, ao = some ad → ∀ j u, (flatV beL Xl)[j]? = some u → W.cell? (ad.add j) = some u := by
  intro ad he j u hj
  subst he
  obtain ⟨hi, hu⟩ := flatV_at (by decide) beL_len hj
  obtain ⟨b, off, h1, hbw, -, hc⟩ := h.full' (by omega)
  cases h1
  have := ((hc (j / 2) hi).2.below hb hbw).rng (j % 2) u hu
  rw [Go.WideShapes.add_plain]
  rw [← this]
  congr 2
  omega
theorem BesAt.nil {lo : Nat} {w : World} {m cap : Nat} {Xl : List Be} (h : BesAt lo w (.slice none m cap) Xl) : Xl.length = 0 := by
  by_cases h0 : 0 < Xl.length
  · obtain ⟨b, off, h1, _⟩ := h.full' h0
    cases h1
  · omega
theorem BesAt.sizes {lo : Nat} {w : World} {v : Value} {Xl : List Be} (h : BesAt lo w v Xl) : ∀ i (hi : i < Xl.length), BeSize Xl[i] := fun i hi => by
  obtain ⟨a, cap, rfl⟩ := h.form
  obtain ⟨b, off, h1, hbw, -, hc⟩ := h.full' (by omega)
  exact (hc i hi).1
theorem NewRow.Bes {base : Nat} {w' : World} {v' : Value} {Xl : List Be} (h : NewRow base w' 90 2 Xl.length v' (flatV beL Xl)) (hm : Xl.length ≤ maxLen) (hz : ∀ i (hi : i < Xl.length), BeSize Xl[i]) : BesOwn base w'.heap.size w' v' Xl := by
  by_cases h0 : Xl.length = 0
  · have hx : Xl = [] := List.length_eq_zero_iff.1 h0
    rcases h with ⟨-, a, c, rfl⟩ | ⟨-, ⟨rfl, -⟩ | ⟨g, cap, cur, rfl, -⟩⟩
    · exact Or.inl ⟨_, _, rfl, hx⟩
    · exact Or.inl ⟨_, _, rfl, hx⟩
    · exact Or.inl ⟨_, _, by rw [h0], hx⟩
  · rcases h with ⟨h, -⟩ | ⟨hl, ⟨-, h⟩ | ⟨g, cap, cur, rfl, hbg, hg, hnc, hcm, hcs, htake⟩⟩
    · exact absurd h h0
    · exact absurd h h0
    · have hlt : g < w'.heap.size := (Array.getElem?_eq_some_iff.1 hg).1
      refine Or.inr ⟨g, 0, cap, fun _ => g + 1, fun i => if h : i < Xl.length then Xl[i] else Xl[0]'(by omega), rfl, fun e => h0 (by rw [e]; rfl), hm, hnc, fun i hi => by simp [hi], ⟨hlt, hbg, Nat.lt_succ_self _, hlt, fun _ _ => Nat.le_refl _, hlt, frozen_none hg, fun i hi => ?_⟩⟩
      simp only [hi, dif_pos]
      have hc : ∀ t v, (beL Xl[i])[t]? = some v → w'.cell? ⟨g, 0 + i * 2 + t, none⟩ = some v := fun t v hv => by
        have ht : t < 2 := by have := (List.getElem?_eq_some_iff.1 hv).1; rwa [beL_len] at this
        rw [cell_heap hg, Nat.zero_add, ← Array.getElem?_toList]
        have h1 := flatV_get beL_len Xl i t hi ht
        rw [hv, ← htake, List.getElem?_take] at h1
        split at h1
        · exact h1
        · cases h1
      exact ⟨hz i hi, ⟨hc 0 _ rfl, hc 1 _ rfl⟩⟩
end Go.Proofs.YtaogpeebencnoaaGreatDoor
