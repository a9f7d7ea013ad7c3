
import Derived.Test.YtdcomaelhpjejaaRD
import Derived.Test.YtdcomaelhpjejaaRM
namespace Go.Proofs.Ytdcomaelhpjejaa
open Go.RowKit Go.Deep

/-! lists, one by one -/
theorem all_no {X : Type} {L : List X} {f : X → Bool} {k : Nat} (hk : k < L.length) (h : f L[k] = false) : L.all f = false := by
  rw [List.all_eq_false]
  exact ⟨L[k], List.getElem_mem hk, by simp [h]⟩
theorem all_yes {X : Type} {L : List X} {f : X → Bool} (h : ∀ i (h : i < L.length), f L[i] = true) : L.all f = true := by
  rw [List.all_eq_true]
  intro x hx
  obtain ⟨i, hi, rfl⟩ := List.getElem_of_mem hx
  exact h i hi
theorem all_at {X : Type} {L : List X} {f : X → Bool} (h : L.all f = true) {k : Nat} (hk : k < L.length) : f L[k] = true := List.all_eq_true.1 h _ (List.getElem_mem hk)
theorem step_all {X : Type} {L : List X} {f : X → Bool} {k : Nat} (hall : ∀ j (h : j < L.length), j < k → f L[j] = true) (hk : k < L.length) (h : f L[k] = true) : ∀ j (h : j < L.length), j < k + 1 → f L[j] = true := fun j hj hjk => by
  by_cases e : j = k
  · subst e; exact h
  · exact hall j hj (by omega)
theorem in21_any (n lo hi : Int) (w : World) :
    Calls Try.prog 24 #[.int .i64 n, .int .i64 lo, .int .i64 hi] w fun e w' => e = .returned (.bool (inB lo hi n)) ∧ w' = w := by
  rw [inB_eq]
  by_cases h1 : lo ≤ n
  · by_cases h2 : n ≤ hi
    all_goals
      go_enter Try.func24, Try.ntmps24
      go_wp2
      go_ret
      exact ⟨ret_bool (by simp [h1, h2]), rfl⟩
  · go_enter Try.func24, Try.ntmps24
    go_wp2
    go_ret
    refine ⟨ret_bool ?_, rfl⟩
    rw [Bool.eq_iff_iff]; simp; omega
/-- a slot is ok -/
def slotB (x : Rs) : Bool := inB 0 1000000 x.ba && (decide (x.tx.size ≤ 160) && !(x.ba == 0 && !x.tx.toList.isEmpty))
def slotsB (L : List Rs) : Bool := decide (L.length ≤ 120) && L.all slotB

end Go.Proofs.Ytdcomaelhpjejaa
