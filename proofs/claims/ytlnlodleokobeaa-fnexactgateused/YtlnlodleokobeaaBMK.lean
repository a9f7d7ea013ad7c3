import Derived.Test.YtlnlodleokobeaaBMA
import Derived.DeepKeys4
import Derived.Maps.RangeWalk
import Derived.Maps.OwnOps
import Derived.Test.YtlnlodleokobeaaBDA
import Derived.Test.YtlnlodleokobeaaBNA
import Derived.Test.YtlnlodleokobeaaBKA
import Derived.Test.YtlnlodleokobeaaBK1
import Derived.Test.YtlnlodleokobeaaBC2
import Derived.Test.YtlnlodleokobeaaBM2
namespace Go.Proofs.Ytlnlodleokobeaa
open Go.RowKit Go.Deep Go.Maps Go.ChangeMaps Go.MapKept

def accL (a b : ByteArray) : Lit := .string (keyBytes [.string a.data.toList, .string b.data.toList])
/-- a struct of two texts, as a map's key -/
structure TwoKey (P : Program) (k s : TypeId) : Prop where
  ex : ∃ f0 f1 : Field, P.underlying k = some (.struct #[f0, f1]) ∧ f0.type = s ∧ f1.type = s ∧ f0.offset = 0 ∧ f1.offset = 1 ∧ f0.name ≠ "_" ∧ f1.name ≠ "_"
  ty : P.keyType k = true
  cs : P.cellsOf k = 2
  st : P.underlying s = some .string
  one : P.cellsOf s = 1
  sz : 0 < P.types.size
theorem TwoKey.mk' {P : Program} {k s : TypeId} (h : TwoKey P k s) {a b : ByteArray} (ha : a.size ≤ maxLen) (hb : b.size ≤ maxLen) : keyOf P k (.agg #[.string a, .string b]) = some (accL a b) := by
  obtain ⟨f0, f1, hu, h0, h1, o0, o1, n0, n1⟩ := h.ex
  obtain ⟨n, hn⟩ : ∃ n, P.types.size = n + 1 := ⟨P.types.size - 1, by have := h.sz; omega⟩
  simp [keyOf, hu, h.ty, Value.formed, h.cs, hn, Program.keyLits, h.st, h.one, Value.cells, ha, hb, accL, h0, h1, o0, o1, n0, n1]
theorem TwoKey.wide {P : Program} {k s : TypeId} (h : TwoKey P k s) : (match P.underlying k with | some (.array _ _) | some (.struct _) => true | _ => false) = true := by
  obtain ⟨f0, f1, hu, -⟩ := h.ex
  rw [hu]
theorem lits_str {P : Program} {s : TypeId} (hs : P.underlying s = some .string) {d : Nat} {cs : List Value} {L : List Lit} (h : P.keyLits (d + 1) s cs = some L) : ∃ a : ByteArray, cs = [.string a] ∧ L = [.string a.data.toList] ∧ a.size ≤ maxLen := by
  unfold Program.keyLits at h
  rw [hs] at h
  split at h <;> simp_all
theorem TwoKey.inv {P : Program} {k s : TypeId} (h : TwoKey P k s) {key : Value} {kl : Lit} (hk : keyOf P k key = some kl) : ∃ a b : ByteArray, key = .agg #[.string a, .string b] ∧ kl = accL a b ∧ a.size ≤ maxLen ∧ b.size ≤ maxLen := by
  obtain ⟨f0, f1, hu, h0, h1, o0, o1, n0, n1⟩ := h.ex
  obtain ⟨n, hn⟩ : ∃ n, P.types.size = n + 1 := ⟨P.types.size - 1, by have := h.sz; omega⟩
  obtain ⟨xs, L, rfl, hL, rfl⟩ := keyOf_top h.wide hk
  obtain ⟨xs⟩ := xs
  rw [hn] at hL
  unfold Program.keyLits at hL
  rw [hu] at hL
  simp only [h.cs] at hL
  split at hL
  · rename_i hc
    obtain ⟨hl, -⟩ := hc
    match xs, hl with
    | [c0, c1], _ =>
      simp only [List.mapM_cons, List.mapM_nil, h0, h1, o0, o1, h.one, List.drop_zero, List.take_succ_cons, List.take_zero, List.drop_succ_cons, Option.map_eq_some_iff] at hL
      obtain ⟨M, hM, rfl⟩ := hL
      cases e0 : P.keyLits (n + 1) s [c0] with
      | none => simp [e0] at hM
      | some L0 =>
        cases e1 : P.keyLits (n + 1) s [c1] with
        | none => simp [e0, e1] at hM
        | some L1 =>
          obtain ⟨a, ea, rfl, sa⟩ := lits_str h.st e0
          obtain ⟨b, eb, rfl, sb⟩ := lits_str h.st e1
          injection ea with ea
          injection eb with eb
          subst ea eb
          simp [e0, e1] at hM
          subst hM
          exact ⟨a, b, rfl, rfl, sa, sb⟩
  · cases hL
theorem TwoKey.inj {P : Program} {k s : TypeId} (h : TwoKey P k s) (K : WideMaps.KeyLaw P k) {a b a' b' : ByteArray} (ha : a.size ≤ maxLen) (hb : b.size ≤ maxLen) (ha' : a'.size ≤ maxLen) (hb' : b'.size ≤ maxLen) (e : accL a b = accL a' b') : a = a' ∧ b = b' := by
  have e := K.inj (h.mk' ha hb) (e ▸ h.mk' ha' hb')
  simpa using e

theorem accTwo : TwoKey Try.prog 148 9 :=
  ⟨⟨_, _, Try.underlying148, rfl, rfl, rfl, rfl, by decide, by decide⟩, by kernel_rfl, by kernel_rfl, Try.underlying9, by kernel_rfl, of_decide_eq_true (by kernel_rfl)⟩
theorem accLaid : laidOutB Try.prog = true := by kernel_rfl
theorem accRow : (148 : TypeId) < Try.prog.types.size := of_decide_eq_true (by kernel_rfl)
theorem accAt : Try.prog.keyTypeAt 2 148 = true := by kernel_rfl
set_option maxRecDepth 100000 in
theorem accLaw : WideMaps.KeyLaw Try.prog 148 := deep_law_laid accLaid (by decide) accRow accAt accTwo.wide
theorem accKeyed : Keyed Try.prog 148 := Keyed.of_law accLaw
theorem accZero (w : World) : (zeroValue 3).run Try.prog w = .ok (.int .i64 0) w := by kernel_rfl
end Go.Proofs.Ytlnlodleokobeaa

