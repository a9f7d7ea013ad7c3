import Derived.Test.YtobijdenhbpdfaaDoorU0
import Derived.Lib.ItoaNum
import Derived.Laws.IdiomStrings
import Derived.Laws.Concat
namespace Go.Proofs.YtobijdenhbpdfaaDoor
open Go.RowKit Go.Deep

/-- a letter and a decimal -/
def numbered (l : UInt8) (n : Nat) : ByteArray := ⟨(l :: Lib.decDigits n).toArray⟩
theorem dec_small {n : Nat} (h : n < 10) : Lib.decDigits n = [UInt8.ofNat (48 + n)] := by rw [Lib.decDigits, dif_pos h]
theorem dec_big {n : Nat} (h : ¬ n < 10) : Lib.decDigits n = Lib.decDigits (n / 10) ++ [UInt8.ofNat (48 + n % 10)] := by rw [Lib.decDigits, dif_neg h]
theorem dec_ne (n : Nat) : Lib.decDigits n ≠ [] := by
  by_cases h : n < 10
  · rw [dec_small h]; simp
  · rw [dec_big h]; simp
theorem dig_inj {a b : Nat} (ha : a < 10) (hb : b < 10) (h : UInt8.ofNat (48 + a) = UInt8.ofNat (48 + b)) : a = b := by
  have := congrArg UInt8.toNat h
  rw [UInt8.toNat_ofNat', UInt8.toNat_ofNat'] at this
  omega
theorem dec_inj : ∀ a b : Nat, Lib.decDigits a = Lib.decDigits b → a = b := by
  intro a
  induction a using Nat.strongRecOn with
  | _ a ih =>
    intro b h
    by_cases ha : a < 10
    · by_cases hb : b < 10
      · rw [dec_small ha, dec_small hb] at h
        injection h with h
        exact dig_inj ha hb h
      · rw [dec_small ha, dec_big hb] at h
        have := congrArg List.length h
        rw [List.length_append] at this
        have h2 := List.length_pos_iff.2 (dec_ne (b / 10))
        simp at this
        exact absurd this (dec_ne _)
    · by_cases hb : b < 10
      · rw [dec_big ha, dec_small hb] at h
        have := congrArg List.length h
        rw [List.length_append] at this
        simp at this
        exact absurd this (dec_ne _)
      · rw [dec_big ha, dec_big hb] at h
        obtain ⟨h1, h2⟩ := List.append_inj' h rfl
        have e := ih (a / 10) (by omega) _ h1
        injection h2 with h2
        have := dig_inj (by omega) (by omega) h2
        omega
theorem dec_len : ∀ n : Nat, (Lib.decDigits n).length ≤ n + 1 := by
  intro n
  induction n using Nat.strongRecOn with
  | _ n ih =>
    by_cases h : n < 10
    · rw [dec_small h]; simp
    · rw [dec_big h, List.length_append]
      have := ih (n / 10) (by omega)
      simp
      omega
theorem numbered_inj {l : UInt8} {a b : Nat} (h : numbered l a = numbered l b) : a = b := by
  unfold numbered at h
  injection h with h
  have := congrArg Array.toList h
  simp at this
  exact dec_inj _ _ this
/-- s is the first of a letter's numbered names of which p says no -/
def IsNew (p : ByteArray → Bool) (l : UInt8) (s : ByteArray) : Prop := ∃ n, s = numbered l n ∧ p s = false ∧ ∀ m, m < n → p (numbered l m) = true
theorem IsNew.one {p : ByteArray → Bool} {l : UInt8} {s t : ByteArray} (hs : IsNew p l s) (ht : IsNew p l t) : s = t := by
  obtain ⟨n, e1, h1, a1⟩ := hs
  obtain ⟨m, e2, h2, a2⟩ := ht
  rcases Nat.lt_trichotomy n m with h | h | h
  · have := a2 n h; rw [← e1, h1] at this; cases this
  · rw [e1, e2, h]
  · have := a1 m h; rw [← e2, h2] at this; cases this
theorem few {L : List ByteArray} {l : UInt8} {n : Nat} (h : ∀ m, m < n → hasB L (numbered l m) = true) : n ≤ L.length := by
  have hn : ((List.range n).map (numbered l)).Nodup := by
    rw [List.nodup_iff_pairwise_ne, List.pairwise_map]
    exact List.nodup_range.imp fun hne e => hne (numbered_inj e)
  have hs : ((List.range n).map (numbered l)) ⊆ L := fun x hx => by
    obtain ⟨m, hm, rfl⟩ := List.mem_map.1 hx
    exact hasB_mem.1 (h m (List.mem_range.1 hm))
  have := List.Nodup.length_le_of_subset hn hs
  simpa using this
end Go.Proofs.YtobijdenhbpdfaaDoor

