import Derived.Test.YtdeammfdkaomlaaGreatV25
import Derived.Test.YtdeammfdkaomlaaGreatV30
import Derived.Test.YtdeammfdkaomlaaGreatV38
namespace Go.Proofs.YtdeammfdkaomlaaGreat
open Go.RowKit Go.Deep

/-! a list of slots that grows in a block of the call's own, whatever that block is typed -/
def rsL (x : Rs) : List Value := [.int .i64 x.ba, .string x.tx]
theorem rsL_len (x : Rs) : (rsL x).length = 2 := rfl
structure LR (w : World) (base g cap : Nat) (L : List Rs) : Prop where
  bs : base ≤ g
  lt : g < w.heap.size
  le : L.length ≤ cap
  mx : cap ≤ maxLen
  th : ∀ j, j < cap * 2 → (w.cell? ⟨g, j, none⟩).isSome = true
  fz : ∀ j, w.frozen? ⟨g, j, none⟩ = false
  rg : w.rangeAt g 0 (flatV rsL L)
  sz : ∀ i (h : i < L.length), RsSize L[i]
theorem LR.below {w w' : World} {base g cap : Nat} {L : List Rs} (h : LR w base g cap L) (hb : Below w.heap.size w w') : LR w' base g cap L :=
  ⟨h.bs, Nat.lt_of_lt_of_le h.lt hb.size, h.le, h.mx, fun j hj => by rw [hb.cell (p := ⟨g, j, none⟩) h.lt]; exact h.th j hj, fun j => by rw [hb.frozen (p := ⟨g, j, none⟩) h.lt]; exact h.fz j, rng_below h.rg hb h.lt, h.sz⟩
def LRow (w : World) (base : Nat) (v : Value) (L : List Rs) : Prop := ∃ g cap, v = .slice (some ⟨g, 0, none⟩) L.length cap ∧ LR w base g cap L
theorem LRow.below {w w' : World} {base : Nat} {v : Value} {L : List Rs} (h : LRow w base v L) (hb : Below w.heap.size w w') : LRow w' base v L := by
  obtain ⟨g, cap, h1, h2⟩ := h
  exact ⟨g, cap, h1, h2.below hb⟩
theorem LR.cells {w : World} {base g cap : Nat} {L : List Rs} (h : LR w base g cap L) {i : Nat} (hi : i < L.length) : RsCells w g (0 + i * 2) L[i] := by
  have e0 := flatV_get rsL_len L i 0 hi (by omega)
  have e1 := flatV_get rsL_len L i 1 hi (by omega)
  have r0 := h.rg (i * 2) (.int .i64 L[i].ba) (by simpa [rsL] using e0)
  have r1 := h.rg (i * 2 + 1) (.string L[i].tx) (by simpa [rsL] using e1)
  exact ⟨r0, r1⟩
theorem LRow.at {w : World} {base : Nat} {v : Value} {L : List Rs} (h : LRow w base v L) : RssAt base w v L := by
  obtain ⟨g, cap, h1, h2⟩ := h
  by_cases hL : L = []
  · subst hL
    exact Or.inl ⟨_, _, h1, rfl⟩
  · exact Or.inr ⟨g, 0, cap, h1, hL, Nat.le_trans h2.le h2.mx, h2.lt, h2.bs, h2.le, fun i hi => ⟨h2.sz i hi, h2.cells hi⟩⟩
theorem LRow.own {w : World} {base : Nat} {v : Value} {L : List Rs} (h : LRow w base v L) : RssOwn base w.heap.size w v L := by
  obtain ⟨g, cap, h1, h2⟩ := h
  by_cases hL : L = []
  · subst hL
    exact Or.inl ⟨_, _, h1, rfl⟩
  · have h0 : 0 < L.length := List.length_pos_iff.2 hL
    refine Or.inr ⟨g, 0, cap, fun _ => g + 1, fun i => if h : i < L.length then L[i] else L[0], h1, hL, Nat.le_trans h2.le h2.mx, h2.le, fun i hi => by simp [hi], h2.lt, h2.bs, Nat.lt_succ_self _, h2.lt, fun _ _ => Nat.le_refl _, h2.lt, h2.fz, fun i hi => ?_⟩
    simp only [hi, dif_pos]
    exact ⟨h2.sz i hi, h2.cells hi⟩
theorem LR.put {w : World} {base g cap : Nat} {L M : List Rs} (h : LR w base g cap L) (hc : L.length + M.length ≤ cap) (hz : ∀ i (h : i < M.length), RsSize M[i]) :
    LR (w.setCells g (0 + L.length * 2) (flatV rsL M)) base g cap (L ++ M) := by
  have hlm : (flatV rsL M).length = M.length * 2 := flatV_len rsL_len M
  have hll : (flatV rsL L).length = L.length * 2 := flatV_len rsL_len L
  refine ⟨h.bs, by rw [size_sets]; exact h.lt, by rw [List.length_append]; exact hc, h.mx, fun j hj => World.isSome_setCells _ _ _ _ _ (h.th j hj), fun j => by rw [World.frozen?_setCells]; exact h.fz j, ?_, ?_⟩
  · rw [flatV_app]
    intro j u hu
    by_cases hj : j < L.length * 2
    · rw [List.getElem?_append_left (by omega)] at hu
      exact World.rangeAt_setCells_apart h.rg g (0 + L.length * 2) (flatV rsL M) (Or.inr (Or.inl (by omega))) j u hu
    · rw [List.getElem?_append_right (by omega), hll] at hu
      have := World.rangeAt_setCells_same w g (0 + L.length * 2) (flatV rsL M) (fun j hj' => ⟨h.th _ (by omega), h.fz _⟩) (j - L.length * 2) u hu
      rwa [show 0 + L.length * 2 + (j - L.length * 2) = 0 + j by omega] at this
  · intro i hi
    rw [List.getElem_append]
    split
    · exact h.sz i (by assumption)
    · exact hz _ _
theorem info_parts {P : Program} {t : TypeId} {z : Value} {s b : Nat} (h : (P.info? t).map (fun i => (i.zero, i.size, i.bytes)) = some (some z, s, b)) : ∃ i, P.info? t = some i ∧ i.zero = some z ∧ i.size = s ∧ i.bytes = b := by
  cases hi : P.info? t with
  | none => rw [hi] at h; simp at h
  | some i =>
    rw [hi] at h
    simp only [Option.map_some, Option.some.injEq, Prod.mk.injEq] at h
    exact ⟨i, rfl, h.1, h.2.1, h.2.2⟩
/-- what stands in memory, as a source of an append -/
theorem RssAt.src {lo : Nat} {w : World} {ao : Option Addr} {n cap : Nat} {L : List Rs} (h : RssAt lo w (.slice ao n cap) L) : ∀ ad, ao = some ad → ∀ j u, (flatV rsL L)[j]? = some u → w.cell? (ad.add j) = some u := by
  rintro ad rfl j u hu
  have hj := (List.getElem?_eq_some_iff.1 hu).1
  rw [flatV_len rsL_len] at hj
  obtain ⟨b, off, e, -, -, hc⟩ := h.full' (by omega)
  injection e with e
  subst e
  have hi : j / 2 < L.length := by omega
  obtain ⟨-, hcc⟩ := hc (j / 2) hi
  rw [Addr.add_lit]
  by_cases hm : j % 2 = 0
  · have ej : j = j / 2 * 2 + 0 := by omega
    have := flatV_get rsL_len L (j / 2) 0 hi (by omega)
    rw [← ej, hu] at this
    have hu' : u = .int .i64 L[j / 2].ba := by simpa [rsL] using this
    rw [hu', ← hcc.c0]
    congr 2
    omega
  · have ej : j = j / 2 * 2 + 1 := by omega
    have := flatV_get rsL_len L (j / 2) 1 hi (by omega)
    rw [← ej, hu] at this
    have hu' : u = .string L[j / 2].tx := by simpa [rsL] using this
    rw [hu', ← hcc.c1]
    congr 2
    omega
theorem RssAt.sizes {lo : Nat} {w : World} {v : Value} {L : List Rs} (h : RssAt lo w v L) : ∀ i (hi : i < L.length), RsSize L[i] := by
  intro i hi
  obtain ⟨_, _, _, _, _, _, _, hc⟩ := h.full (fun e => by rw [e] at hi; simp at hi)
  exact (hc i hi).1
theorem RssAt.nilN {lo : Nat} {w : World} {ao : Option Addr} {n cap : Nat} {L : List Rs} (h : RssAt lo w (.slice ao n cap) L) : ao = none → L.length = 0 := by
  rintro rfl
  rcases h with ⟨_, _, _, rfl⟩ | ⟨_, _, _, h1, _⟩
  · rfl
  · injection h1 with e; cases e
end Go.Proofs.YtdeammfdkaomlaaGreat
