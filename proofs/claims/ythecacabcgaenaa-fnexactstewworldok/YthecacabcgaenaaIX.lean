
import Derived.Test.YthecacabcgaenaaIA
import Derived.Test.YthecacabcgaenaaSW
import Derived.Deep.OwnRows
import Derived.Maps.Own
import Derived.Maps.Views
import Derived.WideKeyEntry
import Derived.DeepKeys4
import Derived.Maps.RangeWalk
import Derived.Maps.OwnOps
import Derived.Maps.OwnSet
namespace Go.Proofs.Ythecacabcgaenaa
open Go.RowKit Go.Deep Go.Maps Go.ChangeMaps Go.MapKept

/-- a key of a number and a text -/
def ixL (n : Int) (a : ByteArray) : Lit := .string (keyBytes [.int .i64 n, .string a.data.toList])
structure NumKey (P : Program) (k : TypeId) : Prop where
  ex : ∃ f0 f1 : Field, P.underlying k = some (.struct #[f0, f1]) ∧ P.underlying f0.type = some (.int .i64) ∧ P.underlying f1.type = some .string ∧ P.cellsOf f0.type = 1 ∧ P.cellsOf f1.type = 1 ∧ f0.offset = 0 ∧ f1.offset = 1 ∧ f0.name ≠ "_" ∧ f1.name ≠ "_"
  ty : P.keyType k = true
  cs : P.cellsOf k = 2
  sz : 0 < P.types.size
theorem NumKey.mk' {P : Program} {k : TypeId} (h : NumKey P k) {n : Int} {b : ByteArray} (ha : (Lit.int .i64 n).wf = true) (hb : b.size ≤ maxLen) : keyOf P k (.agg #[.int .i64 n, .string b]) = some (ixL n b) := by
  obtain ⟨f0, f1, hu, h0, h1, k0, k1, o0, o1, n0, n1⟩ := h.ex
  obtain ⟨n, hn⟩ : ∃ n, P.types.size = n + 1 := ⟨P.types.size - 1, by have := h.sz; omega⟩
  simp [keyOf, hu, h.ty, Value.formed, h.cs, hn, Program.keyLits, h0, h1, k0, k1, Value.cells, ha, hb, ixL, o0, o1, n0, n1]
theorem NumKey.wide {P : Program} {k : TypeId} (h : NumKey P k) : (match P.underlying k with | some (.array _ _) | some (.struct _) => true | _ => false) = true := by
  obtain ⟨f0, f1, hu, -⟩ := h.ex
  rw [hu]
theorem NumKey.inj {P : Program} {k : TypeId} (h : NumKey P k) (K : WideMaps.KeyLaw P k) {n n' : Int} {b b' : ByteArray} (ha : (Lit.int .i64 n).wf = true) (hb : b.size ≤ maxLen) (ha' : (Lit.int .i64 n').wf = true) (hb' : b'.size ≤ maxLen) (e : ixL n b = ixL n' b') : n = n' ∧ b = b' := by
  have e := K.inj (h.mk' ha hb) (e ▸ h.mk' ha' hb')
  simpa using e
theorem ixNum : NumKey Try.prog 102 :=
  ⟨⟨_, _, Try.underlying102, by kernel_rfl, by kernel_rfl, by kernel_rfl, by kernel_rfl, rfl, rfl, by decide, by decide⟩, by kernel_rfl, by kernel_rfl, of_decide_eq_true (by kernel_rfl)⟩
theorem ixLaid : laidOutB Try.prog = true := by kernel_rfl
theorem ixRow : (102 : TypeId) < Try.prog.types.size := of_decide_eq_true (by kernel_rfl)
theorem ixAt : Try.prog.keyTypeAt 2 102 = true := by kernel_rfl
set_option maxRecDepth 100000 in
theorem ixLaw : WideMaps.KeyLaw Try.prog 102 := deep_law_laid ixLaid (by decide) ixRow ixAt ixNum.wide
theorem ixKeyed : Keyed Try.prog 102 := Keyed.of_law ixLaw
theorem ixZero (w : World) : (zeroValue 3).run Try.prog w = .ok (.int .i64 0) w := by kernel_rfl
theorem isKey_ix (n : Int) (a : ByteArray) : WideAt.IsKeyLit (ixL n a) := trivial
theorem wf0 : (Lit.int .i64 0).wf = true := by decide
theorem wf1 : (Lit.int .i64 1).wf = true := by decide
theorem ix_ne {n n' : Int} {b b' : ByteArray} (hn : n = 0 ∨ n = 1) (hn' : n' = 0 ∨ n' = 1) (hb : b.size ≤ maxLen) (hb' : b'.size ≤ maxLen) (h : ¬ (n = n' ∧ b = b')) : ixL n b ≠ ixL n' b' := fun e =>
  h (ixNum.inj ixLaw (by rcases hn with rfl | rfl <;> decide) hb (by rcases hn' with rfl | rfl <;> decide) hb' e)

/-- the places of services, and which berths there are -/
structure IxOk {H : Type} (S : List Sv) (Bl : List Be) (D : DataW H) : Prop where
  isMap : IsMap D
  no : ∀ s : ByteArray, s.size ≤ maxLen → Maps.has D (ixL 0 s) = S.any fun x => x.nm.toList == s.toList
  yes : ∀ s : ByteArray, s.size ≤ maxLen → Maps.has D (ixL 0 s) = true → ∃ (k : Nat) (h : k < S.length), (S[k].nm.toList == s.toList) = true ∧ D.atKey (ixL 0 s) (.lit (.int .i64 0)) = .lit (.int .i64 k)
  be : ∀ s : ByteArray, s.size ≤ maxLen → Maps.has D (ixL 1 s) = hasBe Bl s
  bey : ∀ s : ByteArray, s.size ≤ maxLen → Maps.has D (ixL 1 s) = true → ∃ (k : Nat) (h : k < Bl.length), (Bl[k].nm.toList == s.toList) = true ∧ D.atKey (ixL 1 s) (.lit (.int .i64 0)) = .lit (.int .i64 k)
theorem IxOk.start {H : Type} : IxOk [] [] (.map [] : DataW H) := ⟨⟨[], rfl⟩, fun _ _ => rfl, fun _ _ h => (by cases h), fun _ _ => rfl, fun _ _ h => (by cases h)⟩
theorem IxOk.sv {H : Type} {S : List Sv} {Bl : List Be} {D : DataW H} (h : IxOk S Bl D) (x : Sv) (hz : SvSize x) : IxOk (S ++ [x]) Bl (D.put (ixL 0 x.nm) (.lit (.int .i64 S.length))) := by
  refine ⟨h.isMap.put _ _, fun s hs => ?_, fun s hs hh => ?_, fun s hs => ?_, fun s hs hh => ?_⟩
  · rw [List.any_append]
    by_cases e : s = x.nm
    · subst e
      rw [has_put_same h.isMap (isKey_ix _ _)]
      simp
    · rw [has_put_other (ix_ne (Or.inl rfl) (Or.inl rfl) hs hz.s0 (fun e' => e e'.2)), h.no s hs]
      have hn : (x.nm.toList == s.toList) = false := bytes_ne.2 fun e' => e e'.symm
      simp [hn]
  · by_cases e : s = x.nm
    · subst e
      exact ⟨S.length, by simp, by simp, by rw [atKey_put_same h.isMap (isKey_ix _ _)]⟩
    · have hne := ix_ne (Or.inl rfl) (Or.inl rfl) hs hz.s0 (fun e' => e e'.2)
      rw [has_put_other hne] at hh
      obtain ⟨k, hk, h1, h2⟩ := h.yes s hs hh
      exact ⟨k, by simp; omega, by rw [List.getElem_append_left hk]; exact h1, by rw [atKey_put_other hne]; exact h2⟩
  · rw [has_put_other (ix_ne (Or.inr rfl) (Or.inl rfl) hs hz.s0 (fun e' => by omega)), h.be s hs]
  · have hne := ix_ne (n := 1) (n' := 0) (Or.inr rfl) (Or.inl rfl) hs hz.s0 (fun e' => by omega)
    rw [has_put_other hne] at hh
    obtain ⟨k, hk, h1, h2⟩ := h.bey s hs hh
    exact ⟨k, hk, h1, by rw [atKey_put_other hne]; exact h2⟩
theorem IxOk.bb {H : Type} {S : List Sv} {Bl : List Be} {D : DataW H} (h : IxOk S Bl D) (x : Be) (hz : BeSize x) : IxOk S (Bl ++ [x]) (D.put (ixL 1 x.nm) (.lit (.int .i64 Bl.length))) := by
  refine ⟨h.isMap.put _ _, fun s hs => ?_, fun s hs hh => ?_, fun s hs => ?_, fun s hs hh => ?_⟩
  · rw [has_put_other (ix_ne (Or.inl rfl) (Or.inr rfl) hs hz.s0 (fun e' => by omega)), h.no s hs]
  · have hne := ix_ne (n := 0) (n' := 1) (Or.inl rfl) (Or.inr rfl) hs hz.s0 (fun e' => by omega)
    rw [has_put_other hne] at hh
    obtain ⟨k, hk, h1, h2⟩ := h.yes s hs hh
    exact ⟨k, hk, h1, by rw [atKey_put_other hne]; exact h2⟩
  · unfold hasBe
    rw [List.any_append]
    by_cases e : s = x.nm
    · subst e
      rw [has_put_same h.isMap (isKey_ix _ _)]
      simp
    · rw [has_put_other (ix_ne (Or.inr rfl) (Or.inr rfl) hs hz.s0 (fun e' => e e'.2)), h.be s hs]
      have hn : (x.nm.toList == s.toList) = false := bytes_ne.2 fun e' => e e'.symm
      simp [hn, hasBe]
  · by_cases e : s = x.nm
    · subst e
      exact ⟨Bl.length, by simp, by simp, by rw [atKey_put_same h.isMap (isKey_ix _ _)]⟩
    · have hne := ix_ne (Or.inr rfl) (Or.inr rfl) hs hz.s0 (fun e' => e e'.2)
      rw [has_put_other hne] at hh
      obtain ⟨k, hk, h1, h2⟩ := h.bey s hs hh
      exact ⟨k, by simp; omega, by rw [List.getElem_append_left hk]; exact h1, by rw [atKey_put_other hne]; exact h2⟩
end Go.Proofs.Ythecacabcgaenaa
