import Derived.Test.YtdeammfdkaomlaaGreatV08
import Derived.Test.YtdeammfdkaomlaaGreatV10
import Derived.Deep.MidRow
namespace Go.Proofs.YtdeammfdkaomlaaGreat
open Go.RowKit Go.Deep

structure Rm where
  kd : Int
  fr : Int
  tt : Int
  ba : Int
  ix : Int
  kn : Int
  tx : ByteArray
  sl : List Rs
structure RmAt (lo : Nat) (w : World) (v0 : Value) (U : Rm) : Prop where
  l0 : RssAt lo w v0 U.sl
  s0 : U.tx.size ≤ maxLen
theorem RmAt.below {lo : Nat} {w w' : World} {v0 : Value} {U : Rm} (h : RmAt lo w v0 U) (hb : Below w.heap.size w w') : RmAt lo w' v0 U := ⟨h.l0.below hb, h.s0⟩
theorem RmAt.mono {lo lo' : Nat} {w : World} {v0 : Value} {U : Rm} (h : RmAt lo w v0 U) (hl : lo' ≤ lo) : RmAt lo' w v0 U := ⟨h.l0.mono hl, h.s0⟩
theorem RmAt.set {lo : Nat} {w : World} {v0 : Value} {U : Rm} (h : RmAt lo w v0 U) {p : Addr} (hp : p.block < lo) (u : Value) : RmAt lo (w.setCell p u) v0 U := ⟨h.l0.set hp u, h.s0⟩
/-- its cells -/
def rmL (U : Rm) (a0 : Option Addr) (k0 : Nat) : List Value := [.int .i64 U.kd, .int .i64 U.fr, .int .i64 U.tt, .int .i64 U.ba, .int .i64 U.ix, .int .i64 U.kn, .string U.tx, .slice a0 U.sl.length k0]
/-- its cells, and what they lead to -/
def RmC (lo : Nat) (w : World) (cs : List Value) (U : Rm) : Prop := ∃ a0 k0, cs = rmL U a0 k0 ∧ RmAt lo w (.slice a0 U.sl.length k0) U
theorem RmC.below {lo : Nat} {w w' : World} {cs : List Value} {U : Rm} (h : RmC lo w cs U) (hb : Below w.heap.size w w') : RmC lo w' cs U := by
  obtain ⟨a0, k0, h1, h2⟩ := h
  exact ⟨a0, k0, h1, h2.below hb⟩
theorem RmC.mono {lo lo' : Nat} {w : World} {cs : List Value} {U : Rm} (h : RmC lo w cs U) (hl : lo' ≤ lo) : RmC lo' w cs U := by
  obtain ⟨a0, k0, h1, h2⟩ := h
  exact ⟨a0, k0, h1, h2.mono hl⟩
theorem RmC.set {lo : Nat} {w : World} {cs : List Value} {U : Rm} (h : RmC lo w cs U) {p : Addr} (hp : p.block < lo) (u : Value) : RmC lo (w.setCell p u) cs U := by
  obtain ⟨a0, k0, h1, h2⟩ := h
  exact ⟨a0, k0, h1, h2.set hp u⟩
theorem RmC.len {lo : Nat} {w : World} {cs : List Value} {U : Rm} (h : RmC lo w cs U) : cs.length = 8 := by
  obtain ⟨a0, k0, h1, h2⟩ := h
  rw [h1]; rfl
theorem RmC.one {lo : Nat} {w : World} {cs : List Value} {U : Rm} (h : RmC lo w cs U) : Array.all cs.toArray (·.oneCell') = true := by
  obtain ⟨a0, k0, h1, h2⟩ := h
  rw [h1]
  unfold rmL
  simp [Value.oneCell']

set_option maxHeartbeats 8000000 in
theorem eqRm_c (lo lo' : Nat) (cs cs' : List Value) (U : Rm) (w : World) (h : RmC lo w cs U) (h' : RmC lo' w cs' U) :
    Calls Tryz.prog 78 #[.agg cs.toArray, .agg cs'.toArray] w fun e w' => e = .returned (.bool true) ∧ Below w.heap.size w w' := by
  obtain ⟨a0, k0, rfl, h⟩ := h
  obtain ⟨d0, e0, rfl, h'⟩ := h'
  show Calls Tryz.prog 78 #[.agg #[.int .i64 U.kd, .int .i64 U.fr, .int .i64 U.tt, .int .i64 U.ba, .int .i64 U.ix, .int .i64 U.kn, .string U.tx, .slice a0 U.sl.length k0], .agg #[.int .i64 U.kd, .int .i64 U.fr, .int .i64 U.tt, .int .i64 U.ba, .int .i64 U.ix, .int .i64 U.kn, .string U.tx, .slice d0 U.sl.length e0]] w _
  have HL := hide h
  have HR := hide h'
  clear h h'
  have r0 := bytes_refl U.tx
  go_enter Tryz.func78, Tryz.ntmps78
  go_wp2_with fail
  generalize hWa : (World.alloc (w.alloc _) _) = Wa
  have HB : Hid (Below w.heap.size w Wa) := by unfold Hid; rw [← hWa]; exact (one_al w _).alloc (by simp) _
  have FX : Hid (Box Wa w.heap.size #[.int .i64 U.kd, .int .i64 U.fr, .int .i64 U.tt, .int .i64 U.ba, .int .i64 U.ix, .int .i64 U.kn, .string U.tx, .slice a0 U.sl.length k0]) := by unfold Hid; rw [← hWa]; exact (Box.new _ _ _ _ rfl).on (one_al _ _)
  have FY : Hid (Box Wa (w.heap.size + 1) #[.int .i64 U.kd, .int .i64 U.fr, .int .i64 U.tt, .int .i64 U.ba, .int .i64 U.ix, .int .i64 U.kn, .string U.tx, .slice d0 U.sl.length e0]) := by unfold Hid; rw [← hWa]; exact Box.new _ _ _ _ (by simp)
  clear hWa
  refine (eqRss_same lo lo' _ _ U.sl _ ((HL.out.below HB.out).l0) ((HR.out.below HB.out).l0)).mono ?_
  rintro e w0 ⟨rfl, hb⟩
  replace HB := hide (bt HB.out hb)
  replace FX := hide (FX.out.on hb)
  replace FY := hide (FY.out.on hb)
  clear hb
  have g0 := FX.out.cell
  have g1 := FY.out.cell
  go_wp2
  go_ret
  exact ⟨rfl, HB.out⟩

end Go.Proofs.YtdeammfdkaomlaaGreat
