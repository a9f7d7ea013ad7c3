import Derived.Test.YtemggnmooiaokaaGreatD20
import Derived.Test.YtemggnmooiaokaaGreatD38
namespace Go.Proofs.YtemggnmooiaokaaGreat
open Go.RowKit Go.Deep

/-- which copy is looked for -/
def tgtN (s : ByteArray) (n : Int) : Cp := ⟨s, n, 0, 0, 0, false, ⟨#[]⟩⟩
theorem cmpI_zero {a b : Int} : cmpI a b = 0 ↔ a = b := by unfold cmpI; split <;> (try split) <;> omega
theorem cCp_zero {a b : Cp} : (cCp a b = 0) ↔ a.se = b.se ∧ a.nu = b.nu := by
  unfold cCp
  rw [orI_zero, cmpS_zero, cmpI_zero]
/-- what the place of a copy is -/
def CpIs (L : List Cp) (s : ByteArray) (n : Int) (p : Nat) (t : Bool) : Prop := (t = false ∧ cpF L s n = none) ∨ (t = true ∧ ∃ (h : p < L.length), cpF L s n = some L[p] ∧ cpI L s n = p ∧ L[p].se = s ∧ L[p].nu = n)
theorem cpIs_iff {s : ByteArray} {n : Int} {c : Cp} : cpIs s n c = true ↔ c.se = s ∧ c.nu = n := by
  unfold cpIs
  rw [Bool.and_eq_true]
  exact ⟨fun h => ⟨bytes_eq.1 h.1, beq_iff_eq.1 h.2⟩, fun h => ⟨bytes_eq.2 h.1, beq_iff_eq.2 h.2⟩⟩
theorem cpIs_not {s : ByteArray} {n : Int} {c : Cp} (h : cCp c (tgtN s n) ≠ 0) : cpIs s n c = false := by
  cases hq : cpIs s n c with
  | false => rfl
  | true => exact absurd (cCp_zero.2 (cpIs_iff.1 hq)) h
theorem cp_is {L : List Cp} {s : ByteArray} {n : Int} {p : Nat} (hr : risR aheadB L = true) (h : Spot cCp L (tgtN s n) p) : CpIs L s n p (isAt cCp L (tgtN s n) p) := by
  have hno : ∀ j (hj : j < L.length), j < p → cpIs s n L[j] = false := fun j hj hjp => cpIs_not (by have := h.less j hj hjp; omega)
  unfold isAt
  by_cases hp : p < L.length
  · rw [List.getElem?_eq_getElem hp]
    by_cases h0 : cCp L[p] (tgtN s n) = 0
    · refine Or.inr ⟨decide_eq_true h0, hp, ?_⟩
      have hc := cCp_zero.1 h0
      exact ⟨find_at hp hno (cpIs_iff.2 hc), idx_at hp hno (cpIs_iff.2 hc), hc.1, hc.2⟩
    · refine Or.inl ⟨decide_eq_false h0, find_none fun j hj => ?_⟩
      by_cases hjp : j < p
      · exact hno j hj hjp
      · by_cases e : j = p
        · subst e; exact cpIs_not h0
        · refine cpIs_not fun e0 => ?_
          have h1 := ahead_lt hr hp hj (by omega)
          have h2 := h.more p hp (Nat.le_refl _)
          have h3 : cCp L[p] (tgtN s n) = cCp L[p] L[j] := by
            have := cCp_zero.1 e0
            unfold cCp
            rw [this.1, this.2]
          rw [h3] at h2
          rw [← cCp_neg] at h1
          have := of_decide_eq_true h1
          omega
  · rw [List.getElem?_eq_none (by omega)]
    exact Or.inl ⟨rfl, find_none fun j hj => hno j hj (by omega)⟩

set_option maxRecDepth 100000 in
set_option maxHeartbeats 4000000 in
theorem copyPlace_any (lo : Nat) (now : Int) (sv cv bv : Value) (L : List Cp) (s : ByteArray) (n : Int) (w : World) (hL : CpsAt lo w cv L) (n1 : L.length ≤ 1048576) (hr : risR aheadB L = true) (h0 : ∃ a n k, sv = .slice a n k) (h2 : ∃ a n k, bv = .slice a n k) :
    Calls Tryz.prog 143 #[.agg #[.int .i64 now, sv, cv, bv], .string s, .int .i64 n] w
      fun e w' => (∃ p : Nat, Spot cCp L (tgtN s n) p ∧ e = .returned (.tuple #[.int .i64 p, .bool (isAt cCp L (tgtN s n) p)])) ∧ Below w.heap.size w w' := by
  have HL := hide hL
  have HR := hide hr
  obtain ⟨a1, k1, rfl⟩ := hL.form
  obtain ⟨a0, n0, k0, rfl⟩ := h0
  obtain ⟨a2, n2, k2, rfl⟩ := h2
  clear hL hr
  go_enter Tryz.func143, Tryz.ntmps143
  go_wp2_with fail
  generalize hWa : w.alloc _ = Wa
  have HB0 : Hid (Below w.heap.size w Wa) := by rw [← hWa]; exact one_al w _
  clear hWa
  refine (searchCp_any lo _ L (tgtN s n) _ (HL.out.below HB0.out) n1 (rises_cp HR.out _)).mono ?_
  rintro e w1 ⟨⟨p, hsp, rfl⟩, hb1⟩
  have HSP := hide hsp
  have HB1 := hide (bt HB0.out hb1)
  clear hsp hb1
  go_wp2
  exact bodyPost_ret (v := .tuple #[.int .i64 p, .bool (isAt cCp L (tgtN s n) p)]) (by simp [results, Tryz.results143, go_sem]) rfl ⟨⟨p, HSP.out, rfl⟩, HB1.out⟩
end Go.Proofs.YtemggnmooiaokaaGreat
