import Derived.Test.YtoklnkojacdciaaG01
import Derived.Test.YtoklnkojacdciaaG03
import Derived.Deep.MidRow
namespace Go.Proofs.Ytoklnkojacdciaa
open Go.RowKit Go.Deep

structure Rm where
  kd : Int
  fr : Int
  tt : Int
  ba : Int
  ix : Int
  kn : Int
  tx : ByteArray
  sl : List Rs
def RmSmall (U : Rm) : Prop := RssSmall U.sl
structure RmAt (lo : Nat) (w : World) (v0 : Value) (U : Rm) : Prop where
  l0 : RssAt lo w v0 U.sl
  s0 : U.tx.size ≤ maxLen
theorem RmAt.below {lo : Nat} {w w' : World} {v0 : Value} {U : Rm} (h : RmAt lo w v0 U) (hb : Below w.heap.size w w') : RmAt lo w' v0 U := ⟨h.l0.below hb, h.s0⟩
theorem RmAt.mono {lo lo' : Nat} {w : World} {v0 : Value} {U : Rm} (h : RmAt lo w v0 U) (hl : lo' ≤ lo) : RmAt lo' w v0 U := ⟨h.l0.mono hl, h.s0⟩
theorem RmAt.set {lo : Nat} {w : World} {v0 : Value} {U : Rm} (h : RmAt lo w v0 U) {p : Addr} (hp : p.block < lo) (u : Value) : RmAt lo (w.setCell p u) v0 U := ⟨h.l0.set hp u, h.s0⟩
/-- its cells -/
def rmL (U : Rm) (a0 : Option Addr) (k0 : Nat) : List Value := [.int .i64 U.kd, .int .i64 U.fr, .int .i64 U.tt, .int .i64 U.ba, .int .i64 U.ix, .int .i64 U.kn, .string U.tx, .slice a0 U.sl.length k0]
/-- its cells, and what they lead to -/
def RmC (lo : Nat) (w : World) (cs : List Value) (U : Rm) : Prop := ∃ a0 k0, cs = rmL U a0 k0 ∧ RmAt lo w (.slice a0 U.sl.length k0) U
theorem RmC.below {lo : Nat} {w w' : World} {cs : List Value} {U : Rm} (h : RmC lo w cs U) (hb : Below w.heap.size w w') : RmC lo w' cs U := by
  obtain ⟨a0, k0, h1, h2⟩ := h
  exact ⟨a0, k0, h1, h2.below hb⟩
theorem RmC.mono {lo lo' : Nat} {w : World} {cs : List Value} {U : Rm} (h : RmC lo w cs U) (hl : lo' ≤ lo) : RmC lo' w cs U := by
  obtain ⟨a0, k0, h1, h2⟩ := h
  exact ⟨a0, k0, h1, h2.mono hl⟩
theorem RmC.set {lo : Nat} {w : World} {cs : List Value} {U : Rm} (h : RmC lo w cs U) {p : Addr} (hp : p.block < lo) (u : Value) : RmC lo (w.setCell p u) cs U := by
  obtain ⟨a0, k0, h1, h2⟩ := h
  exact ⟨a0, k0, h1, h2.set hp u⟩
theorem RmC.len {lo : Nat} {w : World} {cs : List Value} {U : Rm} (h : RmC lo w cs U) : cs.length = 8 := by
  obtain ⟨a0, k0, h1, h2⟩ := h
  rw [h1]; rfl
theorem RmC.one {lo : Nat} {w : World} {cs : List Value} {U : Rm} (h : RmC lo w cs U) : Array.all cs.toArray (·.oneCell') = true := by
  obtain ⟨a0, k0, h1, h2⟩ := h
  rw [h1]
  unfold rmL
  simp [Value.oneCell']

set_option maxHeartbeats 8000000 in
theorem szRm_c (lo : Nat) (cs : List Value) (U : Rm) (left : Int) (w : World) (h0 : 0 ≤ left) (h1 : left ≤ 1048576) (h : RmC lo w cs U) :
    Calls Try.prog 65 #[.agg cs.toArray, .int .i64 left] w
      fun e w' => ∃ r : Int, e = .returned (.int .i64 r) ∧ Below w.heap.size w w' ∧ -1 ≤ r ∧ r ≤ left ∧ (0 ≤ r → RmSmall U) := by
  obtain ⟨a0, k0, rfl, h⟩ := h
  show Calls Try.prog 65 #[.agg #[.int .i64 U.kd, .int .i64 U.fr, .int .i64 U.tt, .int .i64 U.ba, .int .i64 U.ix, .int .i64 U.kn, .string U.tx, .slice a0 U.sl.length k0], .int .i64 left] w _
  have HL := hide h
  have y0 := h.s0
  unfold maxLen at y0
  clear h
  by_cases z0 : left - (U.tx.size : Int) < 0
  · go_enter Try.func65, Try.ntmps65
    go_wp2
    go_ret
    exact ⟨-1, rfl, one_al _ _, by omega, by omega, fun h => by omega⟩
  go_enter Try.func65, Try.ntmps65
  go_wp2_with fail
  generalize hWa : w.alloc _ = Wa
  have HB : Hid (Below w.heap.size w Wa) := by unfold Hid; rw [← hWa]; exact one_al _ _
  have FX : Hid (Box Wa w.heap.size #[.int .i64 U.kd, .int .i64 U.fr, .int .i64 U.tt, .int .i64 U.ba, .int .i64 U.ix, .int .i64 U.kn, .string U.tx, .slice a0 U.sl.length k0]) := by unfold Hid; rw [← hWa]; exact Box.new _ _ _ _ rfl
  clear hWa
  refine (szRss_any lo _ U.sl _ _ (by omega) (by omega) ((HL.out.below HB.out).l0)).mono ?_
  rintro e w0 ⟨q0, rfl, hb, p0a, p0b, p0c⟩
  have Q0 := hide p0c
  replace HB := hide (bt HB.out hb)
  replace FX := hide (FX.out.on hb)
  clear hb p0c
  by_cases m0 : q0 < 0
  · go_wp2
    go_ret
    exact ⟨-1, rfl, HB.out, by omega, by omega, fun h => by omega⟩
  go_wp2
  go_ret
  exact ⟨_, rfl, HB.out, by omega, by omega, fun h => Q0.out (by omega)⟩

set_option maxHeartbeats 8000000 in
theorem eqRm_c (lo lo' : Nat) (cs cs' : List Value) (U : Rm) (w : World) (h : RmC lo w cs U) (h' : RmC lo' w cs' U) :
    Calls Try.prog 53 #[.agg cs.toArray, .agg cs'.toArray] w fun e w' => e = .returned (.bool true) ∧ Below w.heap.size w w' := by
  obtain ⟨a0, k0, rfl, h⟩ := h
  obtain ⟨d0, e0, rfl, h'⟩ := h'
  show Calls Try.prog 53 #[.agg #[.int .i64 U.kd, .int .i64 U.fr, .int .i64 U.tt, .int .i64 U.ba, .int .i64 U.ix, .int .i64 U.kn, .string U.tx, .slice a0 U.sl.length k0], .agg #[.int .i64 U.kd, .int .i64 U.fr, .int .i64 U.tt, .int .i64 U.ba, .int .i64 U.ix, .int .i64 U.kn, .string U.tx, .slice d0 U.sl.length e0]] w _
  have HL := hide h
  have HR := hide h'
  clear h h'
  have r0 := bytes_refl U.tx
  go_enter Try.func53, Try.ntmps53
  go_wp2_with fail
  generalize hWa : (World.alloc (w.alloc _) _) = Wa
  have HB : Hid (Below w.heap.size w Wa) := by unfold Hid; rw [← hWa]; exact (one_al w _).alloc (by simp) _
  have FX : Hid (Box Wa w.heap.size #[.int .i64 U.kd, .int .i64 U.fr, .int .i64 U.tt, .int .i64 U.ba, .int .i64 U.ix, .int .i64 U.kn, .string U.tx, .slice a0 U.sl.length k0]) := by unfold Hid; rw [← hWa]; exact (Box.new _ _ _ _ rfl).on (one_al _ _)
  have FY : Hid (Box Wa (w.heap.size + 1) #[.int .i64 U.kd, .int .i64 U.fr, .int .i64 U.tt, .int .i64 U.ba, .int .i64 U.ix, .int .i64 U.kn, .string U.tx, .slice d0 U.sl.length e0]) := by unfold Hid; rw [← hWa]; exact Box.new _ _ _ _ (by simp)
  clear hWa
  refine (eqRss_same lo lo' _ _ U.sl _ ((HL.out.below HB.out).l0) ((HR.out.below HB.out).l0)).mono ?_
  rintro e w0 ⟨rfl, hb⟩
  replace HB := hide (bt HB.out hb)
  replace FX := hide (FX.out.on hb)
  replace FY := hide (FY.out.on hb)
  clear hb
  have g0 := FX.out.cell
  have g1 := FY.out.cell
  go_wp2
  go_ret
  exact ⟨rfl, HB.out⟩

set_option maxRecDepth 20000 in
set_option maxHeartbeats 16000000 in
theorem toRm_c (lo : Nat) (cs : List Value) (U : Rm) (w : World) (h : RmC lo w cs U) (hn : RmSmall U) :
    Calls Try.prog 74 #[.agg cs.toArray] w
      fun e w' => ∃ cs', e = .returned (.agg cs'.toArray) ∧ Below w.heap.size w w' ∧ RmC w.heap.size w' cs' U := by
  obtain ⟨a0, k0, rfl, h⟩ := h
  show Calls Try.prog 74 #[.agg #[.int .i64 U.kd, .int .i64 U.fr, .int .i64 U.tt, .int .i64 U.ba, .int .i64 U.ix, .int .i64 U.kn, .string U.tx, .slice a0 U.sl.length k0]] w _
  have HL := hide h
  have hn0 := hn
  clear h
  go_enter Try.func74, Try.ntmps74
  go_wp2_with fail
  obtain ⟨wz, hwz, FX, FR, FO, HB⟩ : ∃ wz, wz = ((w.alloc (.cells #[.int .i64 U.kd, .int .i64 U.fr, .int .i64 U.tt, .int .i64 U.ba, .int .i64 U.ix, .int .i64 U.kn, .string U.tx, .slice a0 U.sl.length k0] 100)).alloc (.cells #[.int .i64 0, .int .i64 0, .int .i64 0, .int .i64 0, .int .i64 0, .int .i64 0, .string ⟨#[]⟩, .slice none 0 0] 65)).alloc (.cells #[.int .i64 U.kd, .int .i64 U.fr, .int .i64 U.tt, .int .i64 U.ba, .int .i64 U.ix, .int .i64 U.kn, .string U.tx, .slice none 0 0] 65) ∧
      Hid (Box wz w.heap.size #[.int .i64 U.kd, .int .i64 U.fr, .int .i64 U.tt, .int .i64 U.ba, .int .i64 U.ix, .int .i64 U.kn, .string U.tx, .slice a0 U.sl.length k0]) ∧ Hid (Box wz (w.heap.size + 1) #[.int .i64 0, .int .i64 0, .int .i64 0, .int .i64 0, .int .i64 0, .int .i64 0, .string ⟨#[]⟩, .slice none 0 0]) ∧ Hid (Box wz (w.heap.size + 1 + 1) #[.int .i64 U.kd, .int .i64 U.fr, .int .i64 U.tt, .int .i64 U.ba, .int .i64 U.ix, .int .i64 U.kn, .string U.tx, .slice none 0 0]) ∧ Hid (Below w.heap.size w wz) :=
    ⟨_, rfl, ((Box.new w _ _ _ rfl).on (one_al _ _)).on (one_al _ _), (Box.new _ _ _ _ (by simp)).on (one_al _ _), Box.new _ _ _ _ (by simp), ((one_al _ _).trans ((one_al _ _).mono (by simp))).trans ((one_al _ _).mono (by simp; omega))⟩
  rw [← hwz]
  clear hwz
  generalize wz = v0 at *
  have hz0 : w.heap.size + 3 ≤ v0.heap.size := by have := FO.out.lt; omega
  refine (toRss_any lo _ U.sl _ ((HL.out.below HB.out).l0) hn0).mono ?_
  rintro e x0 ⟨u, rfl, hb, hs⟩
  obtain ⟨b0, m0, rfl⟩ := hs.form
  have N0 := hide (hs.mono hz0)
  replace FX := hide (FX.out.on hb)
  replace FR := hide (FR.out.on hb)
  replace FO := hide (FO.out.on hb)
  replace HB := hide (bt HB.out hb)
  clear hb hs hz0
  have g0 := FO.out.cell
  have g1 := FO.out.free
  have g2 := FR.out.cell
  have g3 := FR.out.free
  have g4 := FX.out.cell
  go_wp2
  refine bodyPost_ret (v := .agg #[.int .i64 U.kd, .int .i64 U.fr, .int .i64 U.tt, .int .i64 U.ba, .int .i64 U.ix, .int .i64 U.kn, .string U.tx, .slice b0 U.sl.length m0]) (by simp [results, Try.results74, go_sem, g2]) rfl ⟨rmL U b0 m0, rfl, ?_, b0, m0, rfl, ⟨?_, HL.out.s0⟩⟩
  · repeat (refine Below.setCell ?_ (by simp only []; omega) _)
    exact HB.out
  · refine RssAt.mono (lo := w.heap.size + 3) ?_ (by omega)
    repeat (refine RssAt.set ?_ (by simp only []; omega) _)
    exact N0.out
end Go.Proofs.Ytoklnkojacdciaa
