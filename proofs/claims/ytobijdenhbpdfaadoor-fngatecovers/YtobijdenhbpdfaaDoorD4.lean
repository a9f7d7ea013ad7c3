import Derived.Test.YtobijdenhbpdfaaDoorD3
namespace Go.Proofs.YtobijdenhbpdfaaDoor
open Go.RowKit Go.Deep

set_option maxHeartbeats 1000000 in
theorem l1Many_any (s : ByteArray) (n : Nat) (w : World) (h : s.size * n ≤ 1000000) (hn : n ≤ 1000000) (hs : s.size ≤ 1000000) :
    Calls Tryd.prog 33 #[.string s, .int .i64 n] w fun e w' => w' = w ∧ ∃ o, e = .returned (.string o) ∧ o.size = s.size * n := by
  have HH := hide (And.intro h (And.intro hn hs))
  generalize hS : s.size * n = S at *
  clear h hs
  go_enter Tryd.func33, Tryd.ntmps33
  go_wp2
  go_loopw [0, 1, 5] (fun a b c wr => wr = w ∧ ∃ (s' o' : ByteArray) (k : Nat), a = .string s' ∧ b = .int .i64 k ∧ c = .string o' ∧ o'.size + s'.size * k = S ∧ k ≤ n ∧ s'.size ≤ 2000000) (fun _ b _ _ => (intOf b).toNat)
  case atStart => exact ⟨rfl, s, ⟨#[]⟩, n, rfl, rfl, rfl, by rw [hS]; exact Nat.zero_add _, Nat.le_refl _, by have := HH.out.2.2; omega⟩
  case round =>
    obtain ⟨rfl, s', o', k, rfl, rfl, rfl, h1, h2, h3⟩ := hrel
    by_cases h0 : k = 0
    · subst h0
      go_wp2
      go_ret
      exact ⟨rfl, o', rfl, by rw [Nat.mul_zero] at h1; omega⟩
    · have hk : 0 < k := by omega
      have hsk : s'.size ≤ s'.size * k := Nat.le_mul_of_pos_right _ hk
      have ha1 : ∀ W, (Op.stringOp .add o' s').run Tryd.prog W = .ok (.string (o' ++ s')) W := fun W => run_string_add_sum (P := Tryd.prog) (w := W) o' s' (by have := HH.out.1; omega)
      have ha2 : ∀ W, (Op.stringOp .add s' s').run Tryd.prog W = .ok (.string (s' ++ s')) W := fun W => run_string_add_sum (P := Tryd.prog) (w := W) s' s' (by have := HH.out.1; omega)
      have hz1 : (o' ++ s').size = o'.size + s'.size := ByteArray.size_append
      have hz2 : (s' ++ s').size = s'.size + s'.size := ByteArray.size_append
      have hm : (k : Int).tmod 2 = (k : Int) % 2 := Int.tmod_eq_emod_of_nonneg (by omega)
      have hw : IntKind.i64.wrap ((k : Int) / 2) = (k : Int) / 2 := by have := HH.out.2.1; rw [IntKind.wrap_i64]; omega
      have he : s'.size * k = s'.size * (2 * (k / 2)) + s'.size * (k % 2) := by rw [← Nat.mul_add]; congr 1; omega
      have he2 : s'.size * (2 * (k / 2)) = (s'.size + s'.size) * (k / 2) := by rw [← Nat.mul_assoc]; congr 1; omega
      have H := hide (And.intro h1 (And.intro h2 (And.intro h3 (And.intro he (And.intro he2 (And.intro hz1 (And.intro hz2 hsk)))))))
      clear h1 h2 h3 he he2 hz1 hz2 hsk
      by_cases hodd : k % 2 = 1
      · have hm' : (k : Int) % 2 = 1 := by omega
        go_wp2
        obtain ⟨h1, h2, h3, he, he2, hz1, hz2, hsk⟩ := H.out
        have hS1 := HH.out.1
        refine ⟨⟨trivial, s' ++ s', o' ++ s', k / 2, rfl, rfl, rfl, ?_, by omega, by omega⟩, ?_⟩
        · rw [hz1, hz2, ← he2]; rw [he, hodd] at h1; omega
        · show ((k : Int) / 2).toNat < (k : Int).toNat; omega
      · have hm' : (k : Int) % 2 = 0 := by omega
        go_wp2
        obtain ⟨h1, h2, h3, he, he2, hz1, hz2, hsk⟩ := H.out
        have hS1 := HH.out.1
        refine ⟨⟨trivial, s' ++ s', o', k / 2, rfl, rfl, rfl, ?_, by omega, by omega⟩, ?_⟩
        · rw [hz2, ← he2]; rw [he, show k % 2 = 0 by omega] at h1; omega
        · show ((k : Int) / 2).toNat < (k : Int).toNat; omega
end Go.Proofs.YtobijdenhbpdfaaDoor

