
import Derived.Test.YthecacabcgaenaaBK
import Derived.Test.YthecacabcgaenaaZT
namespace Go.Proofs.Ythecacabcgaenaa
open Go.RowKit Go.Deep

/-! a stewards' book by its cells -/
def sbL (B : Sb) (a0 : Option Addr) (k0 : Nat) (a1 : Option Addr) (k1 : Nat) (a2 : Option Addr) (k2 : Nat) : List Value := [.int .i64 B.now, .slice a0 B.ss.length k0, .slice a1 B.cs.length k1, .slice a2 B.bs.length k2]
theorem sbL_one (B : Sb) (a0 : Option Addr) (k0 : Nat) (a1 : Option Addr) (k1 : Nat) (a2 : Option Addr) (k2 : Nat) : Array.all (sbL B a0 k0 a1 k1 a2 k2).toArray (·.oneCell') = true := by
  unfold sbL
  simp [Value.oneCell']
/-- a book's cells, and what they lead to -/
def SbC (lo : Nat) (w : World) (cs : List Value) (B : Sb) : Prop :=
  ∃ a0 k0 a1 k1 a2 k2, cs = sbL B a0 k0 a1 k1 a2 k2 ∧ SbAt lo w (.slice a0 B.ss.length k0) (.slice a1 B.cs.length k1) (.slice a2 B.bs.length k2) B
theorem SbC.below {lo : Nat} {w w' : World} {cs : List Value} {B : Sb} (h : SbC lo w cs B) (hb : Below w.heap.size w w') : SbC lo w' cs B := by
  obtain ⟨a0, k0, a1, k1, a2, k2, h1, h2⟩ := h
  exact ⟨a0, k0, a1, k1, a2, k2, h1, h2.below hb⟩
theorem SbC.mono {lo lo' : Nat} {w : World} {cs : List Value} {B : Sb} (h : SbC lo w cs B) (hl : lo' ≤ lo) : SbC lo' w cs B := by
  obtain ⟨a0, k0, a1, k1, a2, k2, h1, h2⟩ := h
  exact ⟨a0, k0, a1, k1, a2, k2, h1, h2.mono hl⟩
theorem SbC.set {lo : Nat} {w : World} {cs : List Value} {B : Sb} (h : SbC lo w cs B) {p : Addr} (hp : p.block < lo) (u : Value) : SbC lo (w.setCell p u) cs B := by
  obtain ⟨a0, k0, a1, k1, a2, k2, h1, h2⟩ := h
  exact ⟨a0, k0, a1, k1, a2, k2, h1, h2.set hp u⟩
theorem SbC.len {lo : Nat} {w : World} {cs : List Value} {B : Sb} (h : SbC lo w cs B) : cs.length = 4 := by
  obtain ⟨a0, k0, a1, k1, a2, k2, h1, h2⟩ := h
  rw [h1]; rfl
theorem SbC.one {lo : Nat} {w : World} {cs : List Value} {B : Sb} (h : SbC lo w cs B) : Array.all cs.toArray (·.oneCell') = true := by
  obtain ⟨a0, k0, a1, k1, a2, k2, h1, h2⟩ := h
  rw [h1]; exact sbL_one _ _ _ _ _ _ _
theorem szSb_c (lo : Nat) (cs : List Value) (B : Sb) (left : Int) (w : World) (h0 : 0 ≤ left) (h1 : left ≤ 1048576) (h : SbC lo w cs B) :
    Calls Try.prog 10 #[.agg cs.toArray, .int .i64 left] w
      fun e w' => ∃ r : Int, e = .returned (.int .i64 r) ∧ Below w.heap.size w w' ∧ -1 ≤ r ∧ r ≤ left ∧ (0 ≤ r → SbSmall B) := by
  obtain ⟨a0, k0, a1, k1, a2, k2, rfl, h2⟩ := h
  exact szSb_any lo _ _ _ B w left h0 h1 h2
theorem eqSb_c (lo lo' : Nat) (cs cs' : List Value) (B : Sb) (w : World) (h : SbC lo w cs B) (h' : SbC lo' w cs' B) :
    Calls Try.prog 21 #[.agg cs.toArray, .agg cs'.toArray] w fun e w' => e = .returned (.bool true) ∧ Below w.heap.size w w' := by
  obtain ⟨a0, k0, a1, k1, a2, k2, rfl, h2⟩ := h
  obtain ⟨b0, m0, b1, m1, b2, m2, rfl, h3⟩ := h'
  exact eqSb_same lo _ _ _ B w lo' _ _ _ h2 h3
theorem toSb_c (lo : Nat) (cs : List Value) (B : Sb) (w : World) (h : SbC lo w cs B) (hn : SbSmall B) :
    Calls Try.prog 13 #[.agg cs.toArray] w
      fun e w' => ∃ cs', e = .returned (.agg cs'.toArray) ∧ Below w.heap.size w w' ∧ SbC w.heap.size w' cs' B := by
  obtain ⟨a0, k0, a1, k1, a2, k2, rfl, h2⟩ := h
  refine (toSb_any lo _ _ _ B w h2 hn).mono ?_
  rintro e w' ⟨b0, m0, b1, m1, b2, m2, h3, h4, h5⟩
  exact ⟨sbL B b0 m0 b1 m1 b2 m2, h3, h4, b0, m0, b1, m1, b2, m2, rfl, h5⟩
end Go.Proofs.Ythecacabcgaenaa
