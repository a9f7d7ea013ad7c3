import Derived.Test.YtoklnkojacdciaaM02
import Derived.Test.YtoklnkojacdciaaM25
import Derived.Deep.RegionHeld3
namespace Go.Proofs.Ytoklnkojacdciaa
open Go.RowKit Go.Deep

/-! what is asked of a stewards' book -/
theorem inB_lo {lo hi n : Int} (h : inB lo hi n = true) : lo ≤ n := by unfold inB at h; simp at h; exact h.1
theorem inB_hi {lo hi n : Int} (h : inB lo hi n = true) : n ≤ hi := by unfold inB at h; simp at h; exact h.2
def nmB (s : ByteArray) : Bool := inB 1 20 s.size && allB nameByte s
def perB (x : Sv) : Bool := if x.pr == 0 then (x.ls == 0) && ((x.ms == 0) && ((x.ld == 0) && (x.cl == 0))) else inB 0 1000000 x.pr && (inB 0 1000000 x.ld && (inB 0 10 x.ls && (inB x.ls 10 x.ms && inB 0 3 x.cl)))
def svB (now : Int) (x : Sv) : Bool := (nmB x.nm && (inB 1 now x.ve && (inB 1 1000000 x.im && (inB 1 1000000 x.nx && (inB 0 10 x.wa && (inB 0 10 x.dn && (inB 0 10 x.ov && (!(x.dn + x.ov == 0) && perB x))))))))
/-- the place of the first that is so -/
def pls {X : Type} (p : X → Bool) (L : List X) : Int := match L.findIdx? p with | some i => i | none => -1
def svP (L : List Sv) (s : ByteArray) : Int := pls (fun x => x.nm.toList == s.toList) L
def beP (L : List Be) (s : ByteArray) : Int := pls (fun x => x.nm.toList == s.toList) L
end Go.Proofs.Ytoklnkojacdciaa
namespace Go.Proofs.Ytoklnkojacdciaa
open Go.RowKit Go.Deep

/-- two boxes, above a world -/
abbrev Held2 (W0 : World) (b1 : Nat) (cs1 : Array Value) (b2 : Nat) (cs2 : Array Value) (W : World) : Prop :=
  (∀ i, W.cell? ⟨b1, i, none⟩ = cs1[i]?) ∧ (∀ i, W.cell? ⟨b2, i, none⟩ = cs2[i]?) ∧ Hid (Below W0.heap.size W0 W ∧ b1 < W0.heap.size ∧ b2 < W0.heap.size)
theorem Held2.drew {W0 : World} {b1 b2 : Nat} {cs1 cs2 : Array Value} (h1 : Box W0 b1 cs1) (h2 : Box W0 b2 cs2) : Held2 W0 b1 cs1 b2 cs2 W0.drew := ⟨h1.cell, h2.cell, (Below.refl _ _).drew, h1.lt, h2.lt⟩
theorem Held2.on {W0 W W' : World} {b1 b2 : Nat} {cs1 cs2 : Array Value} (h : Held2 W0 b1 cs1 b2 cs2 W) (hb : Below W.heap.size W W') : Held2 W0 b1 cs1 b2 cs2 W' := by
  obtain ⟨h1, h2, h4⟩ := h
  have hz := h4.out.1.size
  have q1 := h4.out.2.1
  have q2 := h4.out.2.2
  exact ⟨fun i => (hb.cell (p := ⟨b1, i, none⟩) (show b1 < W.heap.size by omega)).trans (h1 i), fun i => (hb.cell (p := ⟨b2, i, none⟩) (show b2 < W.heap.size by omega)).trans (h2 i), h4.out.1.trans (hb.mono hz), q1, q2⟩
end Go.Proofs.Ytoklnkojacdciaa
