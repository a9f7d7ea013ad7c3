import Derived.Test.YtgnodlkdjpnmoaaM2
import Derived.Laws.IdiomCopy
import Derived.Lib.LazyBuf
import Derived.Test.YtgnodlkdjpnmoaaO1
namespace Go.Proofs.Ytgnodlkdjpnmoaa
open Go.RowKit Go.Deep

theorem StrsOwn.below {lo hi : Nat} {w w' : World} {v : Value} {L : List ByteArray} (h : StrsOwn lo hi w v L) (hb : Below w.heap.size w w') : StrsOwn lo hi w' v L := by
  rcases h with h | ⟨b, off, cap, h1, h2, h3, h4, h5, h6, h7, h8, h9⟩
  · exact Or.inl h
  · exact Or.inr ⟨b, off, cap, h1, h2, h3, Nat.lt_of_lt_of_le h4 hb.size, fun i hi' => by rw [hb.cell (p := ⟨b, _, none⟩) h4]; exact h5 i hi', h6, h7, h8, fun i => by rw [hb.frozen (p := ⟨b, _, none⟩) h4]; exact h9 i⟩
theorem StrsOwn.wide {lo hi lo' hi' : Nat} {w : World} {v : Value} {L : List ByteArray} (h : StrsOwn lo hi w v L) (h1 : lo' ≤ lo) (h2 : hi ≤ hi') : StrsOwn lo' hi' w v L := by
  rcases h with h | ⟨b, off, cap, q1, q2, q3, q4, q5, q6, q7, q8, q9⟩
  · exact Or.inl h
  · exact Or.inr ⟨b, off, cap, q1, q2, q3, q4, q5, q6, by omega, by omega, q9⟩
theorem StrsOwn.setCell {lo hi : Nat} {w : World} {v : Value} {L : List ByteArray} (h : StrsOwn lo hi w v L) {p : Addr} (hp : p.block < lo) (u : Value) : StrsOwn lo hi (w.setCell p u) v L := by
  rcases h with h | ⟨b, off, cap, h1, h2, h3, h4, h5, h6, h7, h8, h9⟩
  · exact Or.inl h
  · exact Or.inr ⟨b, off, cap, h1, h2, h3, by simpa [World.setCell] using h4, fun i hi' => by rw [cell_setCell_ne _ _ _ _ (by show b ≠ p.block; omega)]; exact h5 i hi', h6, h7, h8, fun i => by rw [World.frozen?_setCell]; exact h9 i⟩

section
variable (kind nm team : ByteArray) (vv hv : Value) (en : Bool) (ver : Int) (V Ho : List ByteArray) (w : World)

end
end Go.Proofs.Ytgnodlkdjpnmoaa

