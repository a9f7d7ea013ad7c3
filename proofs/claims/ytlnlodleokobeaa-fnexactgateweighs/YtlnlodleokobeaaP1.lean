import Derived.Test.YtlnlodleokobeaaS6
import Derived.Test.YtlnlodleokobeaaS13
namespace Go.Proofs.Ytlnlodleokobeaa

/-- A ROW: each differs from those ahead of it, is one of N, and what it reads is ahead of it. -/
def Good {α : Type} (N : List α) (rd : α → List α) (R : List α) : Prop := ∀ i (h : i < R.length), R[i] ∈ N ∧ R[i] ∉ R.take i ∧ ∀ r ∈ rd R[i], r ∈ R.take i
section
variable {α : Type} {N : List α} {rd : α → List α} {R R' : List α}
theorem Good.init {x : α} (h : Good N rd (R ++ [x])) : Good N rd R ∧ x ∈ N ∧ x ∉ R ∧ ∀ r ∈ rd x, r ∈ R := by
  constructor
  · intro i hi
    have := h i (by rw [List.length_append]; omega)
    rw [List.getElem_append_left hi, List.take_append_of_le_length (Nat.le_of_lt hi)] at this
    exact this
  · have := h R.length (by simp)
    have e1 : (R ++ [x])[R.length] = x := by simp
    have e2 : (R ++ [x]).take R.length = R := by simp
    rw [e1, e2] at this
    exact this
/-- from the beginning to the end -/
theorem Good.along {p : List α → Prop} (h0 : p []) (hs : ∀ row x, Good N rd row → x ∈ N → x ∉ row → (∀ r ∈ rd x, r ∈ row) → p row → p (row ++ [x])) : ∀ (n : Nat) (R : List α), R.length = n → Good N rd R → p R := by
  intro n
  induction n with
  | zero => intro R hl _; rw [List.length_eq_zero_iff.1 hl]; exact h0
  | succ n ih =>
    intro R hl hg
    have hne : R ≠ [] := by intro e; rw [e] at hl; cases hl
    have e : R.dropLast ++ [R.getLast hne] = R := List.dropLast_concat_getLast hne
    rw [← e] at hg ⊢
    obtain ⟨h1, h2, h3, h4⟩ := hg.init
    exact hs _ _ h1 h2 h3 h4 (ih _ (by rw [List.length_dropLast, hl]; rfl) h1)
theorem Good.nodup (h : Good N rd R) : R.Nodup := by
  refine Good.along (p := fun R => R.Nodup) List.nodup_nil (fun row x _ _ hx _ ih => ?_) _ R rfl h
  rw [List.nodup_append]
  exact ⟨ih, by simp, fun a ha b hb => by simp at hb; subst hb; exact fun e => hx (e ▸ ha)⟩
theorem Good.sub (h : Good N rd R) : R ⊆ N := by
  intro y hy
  obtain ⟨i, hi, rfl⟩ := List.getElem_of_mem hy
  exact (h i hi).1
theorem Good.all (h : Good N rd R) (hl : N.length ≤ R.length) : ∀ x ∈ N, x ∈ R := by
  intro x hx
  refine Classical.byContradiction fun hc => ?_
  have : (x :: R).length ≤ N.length := List.Nodup.length_le_of_subset (List.nodup_cons.2 ⟨hc, h.nodup⟩) (List.cons_subset.2 ⟨hx, h.sub⟩)
  simp at this; omega
end

section
variable {α : Type} [DecidableEq α] {N : List α} {rd : α → List α} {R : List α}
end

section
variable {α β : Type} (pl : α → Nat) (dec : List β → α → Option β)
variable {pl dec} {N : List α} {rd : α → List α}
end
end Go.Proofs.Ytlnlodleokobeaa
namespace Go.Proofs.Ytlnlodleokobeaa
open Go.RowKit Go.Deep

theorem bytes_eq {x y : ByteArray} : (x.toList == y.toList) = true ↔ x = y := by
  rw [beq_iff_eq]
  refine ⟨fun h => ?_, fun h => by rw [h]⟩
  rw [ByteArray.toList_eq, ByteArray.toList_eq] at h
  exact ByteArray.ext (Array.toList_inj.1 h)
theorem bytes_refl (x : ByteArray) : (x.toList == x.toList) = true := bytes_eq.2 rfl
theorem bytes_ne {x y : ByteArray} : (x.toList == y.toList) = false ↔ x ≠ y := by
  rw [← Bool.not_eq_true, Ne, bytes_eq]

/-- a mend -/
structure Md where
  kind : ByteArray
  field : ByteArray
  wh : ByteArray
  is : ByteArray
  put : ByteArray
  fr : ByteArray

end Go.Proofs.Ytlnlodleokobeaa
namespace Go.Proofs.Ytlnlodleokobeaa
open Go.RowKit Go.Deep

end Go.Proofs.Ytlnlodleokobeaa

