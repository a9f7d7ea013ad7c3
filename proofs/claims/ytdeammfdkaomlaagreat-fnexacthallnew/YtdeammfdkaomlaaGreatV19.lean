import Derived.Test.YtdeammfdkaomlaaGreatV08
import Derived.Test.YtdeammfdkaomlaaGreatV10
import Derived.Deep.OwnRows
import Derived.Maps.Own
import Derived.Maps.Views
import Derived.WideKeyEntry
import Derived.DeepKeys4
import Derived.Maps.RangeWalk
import Derived.Maps.OwnOps
namespace Go.Proofs.YtdeammfdkaomlaaGreat
open Go.RowKit Go.Deep

theorem ShsAt.set' {lo : Nat} {w : World} {v : Value} {Ss : List Sh} (h : ShsAt lo w v Ss) {p : Addr} (hp : p.block < lo) (u : Value) : ShsAt lo (w.setCell p u) v Ss := by
  rcases h with h | ⟨b, off, cap, h1, h2, h3, h4, h5, h7⟩
  · exact Or.inl h
  · refine Or.inr ⟨b, off, cap, h1, h2, h3, by simpa [World.setCell] using h4, h5, fun i hi => ?_⟩
    obtain ⟨hs, fv, c0, c1, hF⟩ := h7 i hi
    exact ⟨hs, fv, by rw [cell_setCell_ne _ _ _ _ (by simp only []; omega)]; exact c0, by rw [cell_setCell_ne _ _ _ _ (by simp only []; omega)]; exact c1, hF.setCell hp u⟩

/-- a law in memory, all of it above lo -/
structure LawAt (lo : Nat) (w : World) (sv mv tv : Value) (Ss : List Sh) (Ms : List Md) (Ts : List Tm) : Prop where
  shs : ShsAt lo w sv Ss
  mds : MdsAt lo w mv Ms
  tms : TmsAt lo w tv Ts
theorem LawAt.below {lo : Nat} {w w' : World} {sv mv tv : Value} {Ss : List Sh} {Ms : List Md} {Ts : List Tm} (h : LawAt lo w sv mv tv Ss Ms Ts) (hb : Below w.heap.size w w') : LawAt lo w' sv mv tv Ss Ms Ts :=
  ⟨h.shs.below hb, h.mds.below hb, h.tms.below hb⟩
theorem LawAt.mono {lo lo' : Nat} {w : World} {sv mv tv : Value} {Ss : List Sh} {Ms : List Md} {Ts : List Tm} (h : LawAt lo w sv mv tv Ss Ms Ts) (hl : lo' ≤ lo) : LawAt lo' w sv mv tv Ss Ms Ts :=
  ⟨h.shs.mono hl, h.mds.mono hl, h.tms.mono hl⟩
end Go.Proofs.YtdeammfdkaomlaaGreat
namespace Go.Proofs.YtdeammfdkaomlaaGreat
open Go.RowKit Go.Deep Go.Maps Go.ChangeMaps Go.MapKept

def accL (a b : ByteArray) : Lit := .string (keyBytes [.string a.data.toList, .string b.data.toList])
/-- a struct of two texts, as a map's key -/
structure TwoKey (P : Program) (k s : TypeId) : Prop where
  ex : ∃ f0 f1 : Field, P.underlying k = some (.struct #[f0, f1]) ∧ f0.type = s ∧ f1.type = s ∧ f0.offset = 0 ∧ f1.offset = 1 ∧ f0.name ≠ "_" ∧ f1.name ≠ "_"
  ty : P.keyType k = true
  cs : P.cellsOf k = 2
  st : P.underlying s = some .string
  one : P.cellsOf s = 1
  sz : 0 < P.types.size
theorem TwoKey.mk' {P : Program} {k s : TypeId} (h : TwoKey P k s) {a b : ByteArray} (ha : a.size ≤ maxLen) (hb : b.size ≤ maxLen) : keyOf P k (.agg #[.string a, .string b]) = some (accL a b) := by
  obtain ⟨f0, f1, hu, h0, h1, o0, o1, n0, n1⟩ := h.ex
  obtain ⟨n, hn⟩ : ∃ n, P.types.size = n + 1 := ⟨P.types.size - 1, by have := h.sz; omega⟩
  simp [keyOf, hu, h.ty, Value.formed, h.cs, hn, Program.keyLits, h.st, h.one, Value.cells, ha, hb, accL, h0, h1, o0, o1, n0, n1]
theorem TwoKey.wide {P : Program} {k s : TypeId} (h : TwoKey P k s) : (match P.underlying k with | some (.array _ _) | some (.struct _) => true | _ => false) = true := by
  obtain ⟨f0, f1, hu, -⟩ := h.ex
  rw [hu]
theorem TwoKey.inj {P : Program} {k s : TypeId} (h : TwoKey P k s) (K : WideMaps.KeyLaw P k) {a b a' b' : ByteArray} (ha : a.size ≤ maxLen) (hb : b.size ≤ maxLen) (ha' : a'.size ≤ maxLen) (hb' : b'.size ≤ maxLen) (e : accL a b = accL a' b') : a = a' ∧ b = b' := by
  have e := K.inj (h.mk' ha hb) (e ▸ h.mk' ha' hb')
  simpa using e

end Go.Proofs.YtdeammfdkaomlaaGreat
