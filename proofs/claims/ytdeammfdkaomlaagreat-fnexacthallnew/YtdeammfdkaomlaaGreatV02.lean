import Derived.Test.YtdeammfdkaomlaaGreatV01
import Derived.Laws.IdiomCopy
import Derived.Lib.LazyBuf
import Derived.WalkKit
import Derived.WalkSpells
import Derived.WalkLawsBesides
import Derived.Deep.QuietTactic
import Derived.BigQuiet
import Derived.Deep.OwnRows
import Derived.Deep.RegionWith
import Derived.Deep.RegionHeld3
import Derived.Deep.MidRow
import Derived.Deep.DeepCutAuto
namespace Go.Proofs.YtdeammfdkaomlaaGreat
open Go.RowKit Go.Deep

theorem StrsOwn.form {lo hi : Nat} {w : World} {v : Value} {L : List ByteArray} (h : StrsOwn lo hi w v L) : ∃ a cap, v = .slice a L.length cap := by
  rcases h with ⟨a, cap, h, rfl⟩ | ⟨b, off, cap, h, _⟩
  · exact ⟨a, cap, h⟩
  · exact ⟨_, cap, h⟩
theorem StrsOwn.below {lo hi : Nat} {w w' : World} {v : Value} {L : List ByteArray} (h : StrsOwn lo hi w v L) (hb : Below w.heap.size w w') : StrsOwn lo hi w' v L := by
  rcases h with h | ⟨b, off, cap, h1, h2, h3, h4, h5, h6, h7, h8, h9⟩
  · exact Or.inl h
  · exact Or.inr ⟨b, off, cap, h1, h2, h3, Nat.lt_of_lt_of_le h4 hb.size, fun i hi' => by rw [hb.cell (p := ⟨b, _, none⟩) h4]; exact h5 i hi', h6, h7, h8, fun i => by rw [hb.frozen (p := ⟨b, _, none⟩) h4]; exact h9 i⟩
theorem StrsOwn.wide {lo hi lo' hi' : Nat} {w : World} {v : Value} {L : List ByteArray} (h : StrsOwn lo hi w v L) (h1 : lo' ≤ lo) (h2 : hi ≤ hi') : StrsOwn lo' hi' w v L := by
  rcases h with h | ⟨b, off, cap, q1, q2, q3, q4, q5, q6, q7, q8, q9⟩
  · exact Or.inl h
  · exact Or.inr ⟨b, off, cap, q1, q2, q3, q4, q5, q6, by omega, by omega, q9⟩
theorem StrsOwn.setCell {lo hi : Nat} {w : World} {v : Value} {L : List ByteArray} (h : StrsOwn lo hi w v L) {p : Addr} (hp : p.block < lo) (u : Value) : StrsOwn lo hi (w.setCell p u) v L := by
  rcases h with h | ⟨b, off, cap, h1, h2, h3, h4, h5, h6, h7, h8, h9⟩
  · exact Or.inl h
  · exact Or.inr ⟨b, off, cap, h1, h2, h3, by simpa [World.setCell] using h4, fun i hi' => by rw [cell_setCell_ne _ _ _ _ (by show b ≠ p.block; omega)]; exact h5 i hi', h6, h7, h8, fun i => by rw [World.frozen?_setCell]; exact h9 i⟩

end Go.Proofs.YtdeammfdkaomlaaGreat
namespace Go.Proofs.YtdeammfdkaomlaaGreat
open Go.RowKit Go.Deep

/-! ranges of cells -/
theorem rng_below {w w' : World} {m b o : Nat} {cs : List Value} (h : w.rangeAt b o cs) (hb : Below m w w') (hlt : b < m) : w'.rangeAt b o cs := fun j v hv => by
  rw [hb.cell (p := ⟨b, o + j, none⟩) hlt]; exact h j v hv
theorem rng_set {w : World} {b o : Nat} {cs : List Value} (h : w.rangeAt b o cs) {p : Addr} (hp : b ≠ p.block) (u : Value) : (w.setCell p u).rangeAt b o cs := fun j v hv => by
  rw [cell_setCell_ne _ _ _ _ hp]; exact h j v hv
theorem there_below {w w' : World} {m b o n : Nat} (h : w.there b o n) (hb : Below m w w') (hlt : b < m) : w'.there b o n := fun j hj => by
  rw [hb.cell (p := ⟨b, o + j, none⟩) hlt, hb.frozen (p := ⟨b, o + j, none⟩) hlt]; exact h j hj
end Go.Proofs.YtdeammfdkaomlaaGreat
