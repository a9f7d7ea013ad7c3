import Derived.Test.YtdeammfdkaomlaaGreatV13
import Derived.Test.YtdeammfdkaomlaaGreatV18
import Derived.Test.YtdeammfdkaomlaaGreatV39
import Derived.Test.YtdeammfdkaomlaaGreatV41
import Derived.Deep.MidRow
namespace Go.Proofs.YtdeammfdkaomlaaGreat
open Go.RowKit Go.Deep

structure Rr where
  nu : Int
  of : Int
  up : Bool
  sf : Rd
  dk : Rd
  he : List Rm
  wi : List ByteArray
  ld : Bool
  ty : Bool
  ba : Int
  ye : List Int
  be : List Rs
  ac : List Ra
  hd : Int
structure RrAt (lo : Nat) (w : World) (v0 v1 v2 v3 v4 v5 v6 : Value) (U : Rr) : Prop where
  l0 : RssAt lo w v0 U.sf.sl
  l1 : RssAt lo w v1 U.dk.sl
  l2 : RmsAt lo w v2 U.he
  l3 : RtsAt lo w v3 U.wi
  l4 : RisAt lo w v4 U.ye
  l5 : RssAt lo w v5 U.be
  l6 : RasAt lo w v6 U.ac
theorem RrAt.below {lo : Nat} {w w' : World} {v0 v1 v2 v3 v4 v5 v6 : Value} {U : Rr} (h : RrAt lo w v0 v1 v2 v3 v4 v5 v6 U) (hb : Below w.heap.size w w') : RrAt lo w' v0 v1 v2 v3 v4 v5 v6 U := ⟨h.l0.below hb, h.l1.below hb, h.l2.below hb, h.l3.below hb, h.l4.below hb, h.l5.below hb, h.l6.below hb⟩
theorem RrAt.mono {lo lo' : Nat} {w : World} {v0 v1 v2 v3 v4 v5 v6 : Value} {U : Rr} (h : RrAt lo w v0 v1 v2 v3 v4 v5 v6 U) (hl : lo' ≤ lo) : RrAt lo' w v0 v1 v2 v3 v4 v5 v6 U := ⟨h.l0.mono hl, h.l1.mono hl, h.l2.mono hl, h.l3.mono hl, h.l4.mono hl, h.l5.mono hl, h.l6.mono hl⟩
theorem RrAt.set {lo : Nat} {w : World} {v0 v1 v2 v3 v4 v5 v6 : Value} {U : Rr} (h : RrAt lo w v0 v1 v2 v3 v4 v5 v6 U) {p : Addr} (hp : p.block < lo) (u : Value) : RrAt lo (w.setCell p u) v0 v1 v2 v3 v4 v5 v6 U := ⟨h.l0.set hp u, h.l1.set hp u, h.l2.set hp u, h.l3.set hp u, h.l4.set hp u, h.l5.set hp u, h.l6.set hp u⟩
/-- its cells -/
def rrL (U : Rr) (a0 : Option Addr) (k0 : Nat) (a1 : Option Addr) (k1 : Nat) (a2 : Option Addr) (k2 : Nat) (a3 : Option Addr) (k3 : Nat) (a4 : Option Addr) (k4 : Nat) (a5 : Option Addr) (k5 : Nat) (a6 : Option Addr) (k6 : Nat) : List Value := [.int .i64 U.nu, .int .i64 U.of, .bool U.up, .int .i64 U.sf.pr, .int .i64 U.sf.kn, .slice a0 U.sf.sl.length k0, .int .i64 U.dk.pr, .int .i64 U.dk.kn, .slice a1 U.dk.sl.length k1, .slice a2 U.he.length k2, .slice a3 U.wi.length k3, .bool U.ld, .bool U.ty, .int .i64 U.ba, .slice a4 U.ye.length k4, .slice a5 U.be.length k5, .slice a6 U.ac.length k6, .int .i64 U.hd]
/-- its cells, and what they lead to -/
def RrC (lo : Nat) (w : World) (cs : List Value) (U : Rr) : Prop := ∃ a0 k0 a1 k1 a2 k2 a3 k3 a4 k4 a5 k5 a6 k6, cs = rrL U a0 k0 a1 k1 a2 k2 a3 k3 a4 k4 a5 k5 a6 k6 ∧ RrAt lo w (.slice a0 U.sf.sl.length k0) (.slice a1 U.dk.sl.length k1) (.slice a2 U.he.length k2) (.slice a3 U.wi.length k3) (.slice a4 U.ye.length k4) (.slice a5 U.be.length k5) (.slice a6 U.ac.length k6) U
theorem RrC.below {lo : Nat} {w w' : World} {cs : List Value} {U : Rr} (h : RrC lo w cs U) (hb : Below w.heap.size w w') : RrC lo w' cs U := by
  obtain ⟨a0, k0, a1, k1, a2, k2, a3, k3, a4, k4, a5, k5, a6, k6, h1, h2⟩ := h
  exact ⟨a0, k0, a1, k1, a2, k2, a3, k3, a4, k4, a5, k5, a6, k6, h1, h2.below hb⟩
theorem RrC.mono {lo lo' : Nat} {w : World} {cs : List Value} {U : Rr} (h : RrC lo w cs U) (hl : lo' ≤ lo) : RrC lo' w cs U := by
  obtain ⟨a0, k0, a1, k1, a2, k2, a3, k3, a4, k4, a5, k5, a6, k6, h1, h2⟩ := h
  exact ⟨a0, k0, a1, k1, a2, k2, a3, k3, a4, k4, a5, k5, a6, k6, h1, h2.mono hl⟩
theorem RrC.set {lo : Nat} {w : World} {cs : List Value} {U : Rr} (h : RrC lo w cs U) {p : Addr} (hp : p.block < lo) (u : Value) : RrC lo (w.setCell p u) cs U := by
  obtain ⟨a0, k0, a1, k1, a2, k2, a3, k3, a4, k4, a5, k5, a6, k6, h1, h2⟩ := h
  exact ⟨a0, k0, a1, k1, a2, k2, a3, k3, a4, k4, a5, k5, a6, k6, h1, h2.set hp u⟩
theorem RrC.len {lo : Nat} {w : World} {cs : List Value} {U : Rr} (h : RrC lo w cs U) : cs.length = 18 := by
  obtain ⟨a0, k0, a1, k1, a2, k2, a3, k3, a4, k4, a5, k5, a6, k6, h1, h2⟩ := h
  rw [h1]; rfl
theorem RrC.one {lo : Nat} {w : World} {cs : List Value} {U : Rr} (h : RrC lo w cs U) : Array.all cs.toArray (·.oneCell') = true := by
  obtain ⟨a0, k0, a1, k1, a2, k2, a3, k3, a4, k4, a5, k5, a6, k6, h1, h2⟩ := h
  rw [h1]
  unfold rrL
  simp [Value.oneCell']

set_option maxHeartbeats 8000000 in
theorem eqRr_c (lo lo' : Nat) (cs cs' : List Value) (U : Rr) (w : World) (h : RrC lo w cs U) (h' : RrC lo' w cs' U) :
    Calls Tryz.prog 18 #[.agg cs.toArray, .agg cs'.toArray] w fun e w' => e = .returned (.bool true) ∧ Below w.heap.size w w' := by
  obtain ⟨a0, k0, a1, k1, a2, k2, a3, k3, a4, k4, a5, k5, a6, k6, rfl, h⟩ := h
  obtain ⟨d0, e0, d1, e1, d2, e2, d3, e3, d4, e4, d5, e5, d6, e6, rfl, h'⟩ := h'
  show Calls Tryz.prog 18 #[.agg #[.int .i64 U.nu, .int .i64 U.of, .bool U.up, .int .i64 U.sf.pr, .int .i64 U.sf.kn, .slice a0 U.sf.sl.length k0, .int .i64 U.dk.pr, .int .i64 U.dk.kn, .slice a1 U.dk.sl.length k1, .slice a2 U.he.length k2, .slice a3 U.wi.length k3, .bool U.ld, .bool U.ty, .int .i64 U.ba, .slice a4 U.ye.length k4, .slice a5 U.be.length k5, .slice a6 U.ac.length k6, .int .i64 U.hd], .agg #[.int .i64 U.nu, .int .i64 U.of, .bool U.up, .int .i64 U.sf.pr, .int .i64 U.sf.kn, .slice d0 U.sf.sl.length e0, .int .i64 U.dk.pr, .int .i64 U.dk.kn, .slice d1 U.dk.sl.length e1, .slice d2 U.he.length e2, .slice d3 U.wi.length e3, .bool U.ld, .bool U.ty, .int .i64 U.ba, .slice d4 U.ye.length e4, .slice d5 U.be.length e5, .slice d6 U.ac.length e6, .int .i64 U.hd]] w _
  have HL := hide h
  have HR := hide h'
  clear h h'
  go_enter Tryz.func18, Tryz.ntmps18
  go_wp2_with fail
  generalize hWa : (World.alloc (w.alloc _) _) = Wa
  have HB : Hid (Below w.heap.size w Wa) := by unfold Hid; rw [← hWa]; exact (one_al w _).alloc (by simp) _
  have FX : Hid (Box Wa w.heap.size #[.int .i64 U.nu, .int .i64 U.of, .bool U.up, .int .i64 U.sf.pr, .int .i64 U.sf.kn, .slice a0 U.sf.sl.length k0, .int .i64 U.dk.pr, .int .i64 U.dk.kn, .slice a1 U.dk.sl.length k1, .slice a2 U.he.length k2, .slice a3 U.wi.length k3, .bool U.ld, .bool U.ty, .int .i64 U.ba, .slice a4 U.ye.length k4, .slice a5 U.be.length k5, .slice a6 U.ac.length k6, .int .i64 U.hd]) := by unfold Hid; rw [← hWa]; exact (Box.new _ _ _ _ rfl).on (one_al _ _)
  have FY : Hid (Box Wa (w.heap.size + 1) #[.int .i64 U.nu, .int .i64 U.of, .bool U.up, .int .i64 U.sf.pr, .int .i64 U.sf.kn, .slice d0 U.sf.sl.length e0, .int .i64 U.dk.pr, .int .i64 U.dk.kn, .slice d1 U.dk.sl.length e1, .slice d2 U.he.length e2, .slice d3 U.wi.length e3, .bool U.ld, .bool U.ty, .int .i64 U.ba, .slice d4 U.ye.length e4, .slice d5 U.be.length e5, .slice d6 U.ac.length e6, .int .i64 U.hd]) := by unfold Hid; rw [← hWa]; exact Box.new _ _ _ _ (by simp)
  clear hWa
  refine (eqRd_c lo lo' _ _ U.sf _ (⟨_, _, rfl, ⟨(HL.out.below HB.out).l0⟩⟩) (⟨_, _, rfl, ⟨(HR.out.below HB.out).l0⟩⟩)).mono ?_
  rintro e w0 ⟨rfl, hb⟩
  replace HB := hide (bt HB.out hb)
  replace FX := hide (FX.out.on hb)
  replace FY := hide (FY.out.on hb)
  clear hb
  have g0 := FX.out.cell
  have g1 := FY.out.cell
  go_wp2_with fail
  clear g0 g1
  refine (eqRd_c lo lo' _ _ U.dk _ (⟨_, _, rfl, ⟨(HL.out.below HB.out).l1⟩⟩) (⟨_, _, rfl, ⟨(HR.out.below HB.out).l1⟩⟩)).mono ?_
  rintro e w1 ⟨rfl, hb⟩
  replace HB := hide (bt HB.out hb)
  replace FX := hide (FX.out.on hb)
  replace FY := hide (FY.out.on hb)
  clear hb
  have g0 := FX.out.cell
  have g1 := FY.out.cell
  go_wp2_with fail
  clear g0 g1
  refine (eqRms_same lo lo' _ _ U.he _ ((HL.out.below HB.out).l2) ((HR.out.below HB.out).l2)).mono ?_
  rintro e w2 ⟨rfl, hb⟩
  replace HB := hide (bt HB.out hb)
  replace FX := hide (FX.out.on hb)
  replace FY := hide (FY.out.on hb)
  clear hb
  have g0 := FX.out.cell
  have g1 := FY.out.cell
  go_wp2_with fail
  clear g0 g1
  refine (eqRts_same lo lo' _ _ U.wi _ ((HL.out.below HB.out).l3) ((HR.out.below HB.out).l3)).mono ?_
  rintro e w3 ⟨rfl, hb⟩
  replace HB := hide (bt HB.out hb)
  replace FX := hide (FX.out.on hb)
  replace FY := hide (FY.out.on hb)
  clear hb
  have g0 := FX.out.cell
  have g1 := FY.out.cell
  go_wp2_with fail
  clear g0 g1
  refine (eqRis_same lo lo' _ _ U.ye _ ((HL.out.below HB.out).l4) ((HR.out.below HB.out).l4)).mono ?_
  rintro e w4 ⟨rfl, hb⟩
  replace HB := hide (bt HB.out hb)
  replace FX := hide (FX.out.on hb)
  replace FY := hide (FY.out.on hb)
  clear hb
  have g0 := FX.out.cell
  have g1 := FY.out.cell
  go_wp2_with fail
  clear g0 g1
  refine (eqRss_same lo lo' _ _ U.be _ ((HL.out.below HB.out).l5) ((HR.out.below HB.out).l5)).mono ?_
  rintro e w5 ⟨rfl, hb⟩
  replace HB := hide (bt HB.out hb)
  replace FX := hide (FX.out.on hb)
  replace FY := hide (FY.out.on hb)
  clear hb
  have g0 := FX.out.cell
  have g1 := FY.out.cell
  go_wp2_with fail
  clear g0 g1
  refine (eqRas_same lo lo' _ _ U.ac _ ((HL.out.below HB.out).l6) ((HR.out.below HB.out).l6)).mono ?_
  rintro e w6 ⟨rfl, hb⟩
  replace HB := hide (bt HB.out hb)
  replace FX := hide (FX.out.on hb)
  replace FY := hide (FY.out.on hb)
  clear hb
  have g0 := FX.out.cell
  have g1 := FY.out.cell
  go_wp2
  go_ret
  exact ⟨rfl, HB.out⟩

end Go.Proofs.YtdeammfdkaomlaaGreat
namespace Go.Proofs.YtdeammfdkaomlaaGreat
open Go.RowKit Go.Deep

theorem sizeRr : (Tryz.prog.info? 61).map (·.size) = some 18 := by kernel_rfl
theorem res_rr {P : Program} {fn : Func} {p : Tmp} {ty : TypeId} (h : fn.results = #[.cell p ty]) (tmps : Array Value) (w : World) (b o : Nat) (cs : List Value) (d : TypeDesc)
    (hp : tmps.getD p undef = .pointer (some ⟨b, o, none⟩)) (hc : w.rangeAt b o cs) (hu : P.underlying ty = some d) (hd : d.isRow = true) (hi : (P.info? ty).map (·.size) = some cs.length) :
    (results fn tmps).run P w = .ok (.agg cs.toArray) w := by
  have hp' : tmps[p]?.getD undef = .pointer (some ⟨b, o, none⟩) := by simpa using hp
  simp [results, h, hp', asAddr, run_loadVar_mid w b o ty cs d hc hu hd hi]
end Go.Proofs.YtdeammfdkaomlaaGreat
