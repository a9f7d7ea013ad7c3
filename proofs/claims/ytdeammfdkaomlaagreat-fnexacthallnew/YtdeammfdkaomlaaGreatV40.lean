import Derived.Test.YtdeammfdkaomlaaGreatV08
import Derived.Test.YtdeammfdkaomlaaGreatV10
import Derived.Deep.MidRow
namespace Go.Proofs.YtdeammfdkaomlaaGreat
open Go.RowKit Go.Deep

structure Ra where
  ix : Int
  fr : List Int
structure RaAt (lo : Nat) (w : World) (v0 : Value) (U : Ra) : Prop where
  l0 : RisAt lo w v0 U.fr
theorem RaAt.below {lo : Nat} {w w' : World} {v0 : Value} {U : Ra} (h : RaAt lo w v0 U) (hb : Below w.heap.size w w') : RaAt lo w' v0 U := ⟨h.l0.below hb⟩
theorem RaAt.mono {lo lo' : Nat} {w : World} {v0 : Value} {U : Ra} (h : RaAt lo w v0 U) (hl : lo' ≤ lo) : RaAt lo' w v0 U := ⟨h.l0.mono hl⟩
theorem RaAt.set {lo : Nat} {w : World} {v0 : Value} {U : Ra} (h : RaAt lo w v0 U) {p : Addr} (hp : p.block < lo) (u : Value) : RaAt lo (w.setCell p u) v0 U := ⟨h.l0.set hp u⟩
/-- its cells -/
def raL (U : Ra) (a0 : Option Addr) (k0 : Nat) : List Value := [.int .i64 U.ix, .slice a0 U.fr.length k0]
/-- its cells, and what they lead to -/
def RaC (lo : Nat) (w : World) (cs : List Value) (U : Ra) : Prop := ∃ a0 k0, cs = raL U a0 k0 ∧ RaAt lo w (.slice a0 U.fr.length k0) U
theorem RaC.below {lo : Nat} {w w' : World} {cs : List Value} {U : Ra} (h : RaC lo w cs U) (hb : Below w.heap.size w w') : RaC lo w' cs U := by
  obtain ⟨a0, k0, h1, h2⟩ := h
  exact ⟨a0, k0, h1, h2.below hb⟩
theorem RaC.mono {lo lo' : Nat} {w : World} {cs : List Value} {U : Ra} (h : RaC lo w cs U) (hl : lo' ≤ lo) : RaC lo' w cs U := by
  obtain ⟨a0, k0, h1, h2⟩ := h
  exact ⟨a0, k0, h1, h2.mono hl⟩
theorem RaC.set {lo : Nat} {w : World} {cs : List Value} {U : Ra} (h : RaC lo w cs U) {p : Addr} (hp : p.block < lo) (u : Value) : RaC lo (w.setCell p u) cs U := by
  obtain ⟨a0, k0, h1, h2⟩ := h
  exact ⟨a0, k0, h1, h2.set hp u⟩
theorem RaC.len {lo : Nat} {w : World} {cs : List Value} {U : Ra} (h : RaC lo w cs U) : cs.length = 2 := by
  obtain ⟨a0, k0, h1, h2⟩ := h
  rw [h1]; rfl
theorem RaC.one {lo : Nat} {w : World} {cs : List Value} {U : Ra} (h : RaC lo w cs U) : Array.all cs.toArray (·.oneCell') = true := by
  obtain ⟨a0, k0, h1, h2⟩ := h
  rw [h1]
  unfold raL
  simp [Value.oneCell']

set_option maxHeartbeats 8000000 in
theorem eqRa_c (lo lo' : Nat) (cs cs' : List Value) (U : Ra) (w : World) (h : RaC lo w cs U) (h' : RaC lo' w cs' U) :
    Calls Tryz.prog 155 #[.agg cs.toArray, .agg cs'.toArray] w fun e w' => e = .returned (.bool true) ∧ Below w.heap.size w w' := by
  obtain ⟨a0, k0, rfl, h⟩ := h
  obtain ⟨d0, e0, rfl, h'⟩ := h'
  show Calls Tryz.prog 155 #[.agg #[.int .i64 U.ix, .slice a0 U.fr.length k0], .agg #[.int .i64 U.ix, .slice d0 U.fr.length e0]] w _
  have HL := hide h
  have HR := hide h'
  clear h h'
  go_enter Tryz.func155, Tryz.ntmps155
  go_wp2_with fail
  generalize hWa : (World.alloc (w.alloc _) _) = Wa
  have HB : Hid (Below w.heap.size w Wa) := by unfold Hid; rw [← hWa]; exact (one_al w _).alloc (by simp) _
  have FX : Hid (Box Wa w.heap.size #[.int .i64 U.ix, .slice a0 U.fr.length k0]) := by unfold Hid; rw [← hWa]; exact (Box.new _ _ _ _ rfl).on (one_al _ _)
  have FY : Hid (Box Wa (w.heap.size + 1) #[.int .i64 U.ix, .slice d0 U.fr.length e0]) := by unfold Hid; rw [← hWa]; exact Box.new _ _ _ _ (by simp)
  clear hWa
  refine (eqRis_same lo lo' _ _ U.fr _ ((HL.out.below HB.out).l0) ((HR.out.below HB.out).l0)).mono ?_
  rintro e w0 ⟨rfl, hb⟩
  replace HB := hide (bt HB.out hb)
  replace FX := hide (FX.out.on hb)
  replace FY := hide (FY.out.on hb)
  clear hb
  have g0 := FX.out.cell
  have g1 := FY.out.cell
  go_wp2
  go_ret
  exact ⟨rfl, HB.out⟩

end Go.Proofs.YtdeammfdkaomlaaGreat
