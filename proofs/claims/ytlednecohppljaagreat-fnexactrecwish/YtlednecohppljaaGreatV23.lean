import Derived.Test.YtlednecohppljaaGreatV16
import Derived.Test.YtlednecohppljaaGreatV21
import Derived.Test.YtlednecohppljaaGreatV22
namespace Go.Proofs.YtlednecohppljaaGreat
open Go.RowKit Go.Deep

/-- a stewards' book -/
structure Sb where
  now : Int
  ss : List Sv
  cs : List Cp
  bs : List Be
/-- a book in memory, all of it above lo -/
structure SbAt (lo : Nat) (w : World) (sv cv bv : Value) (B : Sb) : Prop where
  svs : SvsAt lo w sv B.ss
  cps : CpsAt lo w cv B.cs
  bes : BesAt lo w bv B.bs
theorem SbAt.below {lo : Nat} {w w' : World} {sv cv bv : Value} {B : Sb} (h : SbAt lo w sv cv bv B) (hb : Below w.heap.size w w') : SbAt lo w' sv cv bv B :=
  ⟨h.svs.below hb, h.cps.below hb, h.bes.below hb⟩
theorem SbAt.mono {lo lo' : Nat} {w : World} {sv cv bv : Value} {B : Sb} (h : SbAt lo w sv cv bv B) (hl : lo' ≤ lo) : SbAt lo' w sv cv bv B :=
  ⟨h.svs.mono hl, h.cps.mono hl, h.bes.mono hl⟩
theorem SbAt.set {lo : Nat} {w : World} {sv cv bv : Value} {B : Sb} (h : SbAt lo w sv cv bv B) {p : Addr} (hp : p.block < lo) (u : Value) : SbAt lo (w.setCell p u) sv cv bv B :=
  ⟨h.svs.set hp u, h.cps.set hp u, h.bes.set hp u⟩
def SbSmall (B : Sb) : Prop := SvsSmall B.ss ∧ CpsSmall B.cs ∧ BesSmall B.bs

section
variable (lo : Nat) (sv cv bv : Value) (B : Sb) (w : World)

end
end Go.Proofs.YtlednecohppljaaGreat
namespace Go.Proofs.YtlednecohppljaaGreat
open Go.RowKit Go.Deep

/-! what is asked of a stewards' book -/
theorem inB_lo {lo hi n : Int} (h : inB lo hi n = true) : lo ≤ n := by unfold inB at h; simp at h; exact h.1
theorem inB_hi {lo hi n : Int} (h : inB lo hi n = true) : n ≤ hi := by unfold inB at h; simp at h; exact h.2
def nmB (s : ByteArray) : Bool := inB 1 20 s.size && allB nameByte s
def perB (x : Sv) : Bool := if x.pr == 0 then (x.ls == 0) && ((x.ms == 0) && ((x.ld == 0) && (x.cl == 0))) else inB 0 1000000 x.pr && (inB 0 1000000 x.ld && (inB 0 10 x.ls && (inB x.ls 10 x.ms && inB 0 3 x.cl)))
def svB (now : Int) (x : Sv) : Bool := (nmB x.nm && (inB 1 now x.ve && (inB 1 1000000 x.im && (inB 1 1000000 x.nx && (inB 0 10 x.wa && (inB 0 10 x.dn && (inB 0 10 x.ov && (!(x.dn + x.ov == 0) && perB x))))))))
/-- the place of the first that is so -/
def pls {X : Type} (p : X → Bool) (L : List X) : Int := match L.findIdx? p with | some i => i | none => -1
def svP (L : List Sv) (s : ByteArray) : Int := pls (fun x => x.nm.toList == s.toList) L
def beP (L : List Be) (s : ByteArray) : Int := pls (fun x => x.nm.toList == s.toList) L
end Go.Proofs.YtlednecohppljaaGreat
