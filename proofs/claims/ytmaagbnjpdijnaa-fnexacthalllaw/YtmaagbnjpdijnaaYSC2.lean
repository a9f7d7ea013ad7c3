import Derived.Test.YtmaagbnjpdijnaaYOXg
import Derived.Test.YtmaagbnjpdijnaaYSX
import Derived.Test.YtmaagbnjpdijnaaYBW
import Derived.Test.YtmaagbnjpdijnaaYGX
import Derived.Test.YtmaagbnjpdijnaaYDA
import Derived.Deep.RegionLaw
namespace Go.Proofs.Ytmaagbnjpdijnaa
open Go.RowKit Go.Deep

theorem cell_new7 (X : World) (g : Nat) (L : List Value) (t : TypeId) (hg : X.heap.size = g) : ∀ j x, L[j]? = some x → (X.alloc (.cells L.toArray t)).cell? ((⟨g, 0, none⟩ : Addr).add j) = some x := by
  intro j x hx
  subst hg
  rw [Go.WideShapes.add_plain, Nat.zero_add, new_cell _ _ _ _ _ rfl]
  simpa using hx
theorem run_append_void {P : Program} (w : World) (t ty e : TypeId) (i : TypeInfo) (ht : P.underlying t = some (.slice e)) (hi : P.info? e = some i) (c : Nat) : (Builtin.append_ #[t, t] ty #[.slice none 0 0, .slice none 0 c]).run P w = .ok (.slice none 0 0) w := by
  simp [Builtin.append_, run_underlying ht, sizeOf, typeInfo, hi, Builtin.lenOf, run_firstCells_none]
/-- where the copy of a book stands behind its two loops -/
structure CpIn (s : Nat) (w wr : World) (cb cx : Array Value) : Prop where
  bel : Below s w wr
  inn : Box wr s cb
  res : Box wr (s + 1) #[.int .i64 0, .int .i64 0, .int .i64 0, .slice none 0 0, .slice none 0 0, .slice none 0 0, .slice none 0 0]
  out : Box wr (s + 2) cx
theorem CpIn.on {s : Nat} {w wr w' : World} {cb cx : Array Value} (h : CpIn s w wr cb cx) (hb : Below (s + 3) wr w') : CpIn s w w' cb cx :=
  ⟨h.bel.trans (hb.mono (by omega)), h.inn.below hb (by omega), h.res.below hb (by omega), h.out.below hb (by omega)⟩
theorem CpIn.set {s : Nat} {w wr : World} {cb cx : Array Value} (h : CpIn s w wr cb cx) (k : Nat) (u : Value) (hk : k < cx.size) : CpIn s w (wr.setCell ⟨s + 2, k, none⟩ u) cb (cx.set k u hk) :=
  ⟨h.bel.setCell (by simp only []; omega) _, h.inn.setFar (by simp only []; omega) _, h.res.setFar (by simp only []; omega) _, h.out.set (k := k) u hk⟩

section
variable (lo : Nat) (ov gv lv pv : Value) (B : Bk) (w : World)

end
end Go.Proofs.Ytmaagbnjpdijnaa

