
import Derived.Test.YtdcomaelhpjejaaRS
import Derived.Test.YtdcomaelhpjejaaZT
import Derived.Deep.MidRow
namespace Go.Proofs.Ytdcomaelhpjejaa
open Go.RowKit Go.Deep

structure Rd where
  pr : Int
  kn : Int
  sl : List Rs
def RdSmall (U : Rd) : Prop := RssSmall U.sl
structure RdAt (lo : Nat) (w : World) (v0 : Value) (U : Rd) : Prop where
  l0 : RssAt lo w v0 U.sl
theorem RdAt.below {lo : Nat} {w w' : World} {v0 : Value} {U : Rd} (h : RdAt lo w v0 U) (hb : Below w.heap.size w w') : RdAt lo w' v0 U := ⟨h.l0.below hb⟩
theorem RdAt.mono {lo lo' : Nat} {w : World} {v0 : Value} {U : Rd} (h : RdAt lo w v0 U) (hl : lo' ≤ lo) : RdAt lo' w v0 U := ⟨h.l0.mono hl⟩
theorem RdAt.set {lo : Nat} {w : World} {v0 : Value} {U : Rd} (h : RdAt lo w v0 U) {p : Addr} (hp : p.block < lo) (u : Value) : RdAt lo (w.setCell p u) v0 U := ⟨h.l0.set hp u⟩
/-- its cells -/
def rdL (U : Rd) (a0 : Option Addr) (k0 : Nat) : List Value := [.int .i64 U.pr, .int .i64 U.kn, .slice a0 U.sl.length k0]
/-- its cells, and what they lead to -/
def RdC (lo : Nat) (w : World) (cs : List Value) (U : Rd) : Prop := ∃ a0 k0, cs = rdL U a0 k0 ∧ RdAt lo w (.slice a0 U.sl.length k0) U
theorem RdC.below {lo : Nat} {w w' : World} {cs : List Value} {U : Rd} (h : RdC lo w cs U) (hb : Below w.heap.size w w') : RdC lo w' cs U := by
  obtain ⟨a0, k0, h1, h2⟩ := h
  exact ⟨a0, k0, h1, h2.below hb⟩
theorem RdC.mono {lo lo' : Nat} {w : World} {cs : List Value} {U : Rd} (h : RdC lo w cs U) (hl : lo' ≤ lo) : RdC lo' w cs U := by
  obtain ⟨a0, k0, h1, h2⟩ := h
  exact ⟨a0, k0, h1, h2.mono hl⟩
theorem RdC.set {lo : Nat} {w : World} {cs : List Value} {U : Rd} (h : RdC lo w cs U) {p : Addr} (hp : p.block < lo) (u : Value) : RdC lo (w.setCell p u) cs U := by
  obtain ⟨a0, k0, h1, h2⟩ := h
  exact ⟨a0, k0, h1, h2.set hp u⟩
theorem RdC.len {lo : Nat} {w : World} {cs : List Value} {U : Rd} (h : RdC lo w cs U) : cs.length = 3 := by
  obtain ⟨a0, k0, h1, h2⟩ := h
  rw [h1]; rfl
theorem RdC.one {lo : Nat} {w : World} {cs : List Value} {U : Rd} (h : RdC lo w cs U) : Array.all cs.toArray (·.oneCell') = true := by
  obtain ⟨a0, k0, h1, h2⟩ := h
  rw [h1]
  unfold rdL
  simp [Value.oneCell']

set_option maxHeartbeats 8000000 in
theorem eqRd_c (lo lo' : Nat) (cs cs' : List Value) (U : Rd) (w : World) (h : RdC lo w cs U) (h' : RdC lo' w cs' U) :
    Calls Try.prog 26 #[.agg cs.toArray, .agg cs'.toArray] w fun e w' => e = .returned (.bool true) ∧ Below w.heap.size w w' := by
  obtain ⟨a0, k0, rfl, h⟩ := h
  obtain ⟨d0, e0, rfl, h'⟩ := h'
  show Calls Try.prog 26 #[.agg #[.int .i64 U.pr, .int .i64 U.kn, .slice a0 U.sl.length k0], .agg #[.int .i64 U.pr, .int .i64 U.kn, .slice d0 U.sl.length e0]] w _
  have HL := hide h
  have HR := hide h'
  clear h h'
  go_enter Try.func26, Try.ntmps26
  go_wp2_with fail
  generalize hWa : (World.alloc (w.alloc _) _) = Wa
  have HB : Hid (Below w.heap.size w Wa) := by unfold Hid; rw [← hWa]; exact (one_al w _).alloc (by simp) _
  have FX : Hid (Box Wa w.heap.size #[.int .i64 U.pr, .int .i64 U.kn, .slice a0 U.sl.length k0]) := by unfold Hid; rw [← hWa]; exact (Box.new _ _ _ _ rfl).on (one_al _ _)
  have FY : Hid (Box Wa (w.heap.size + 1) #[.int .i64 U.pr, .int .i64 U.kn, .slice d0 U.sl.length e0]) := by unfold Hid; rw [← hWa]; exact Box.new _ _ _ _ (by simp)
  clear hWa
  refine (eqRss_same lo lo' _ _ U.sl _ ((HL.out.below HB.out).l0) ((HR.out.below HB.out).l0)).mono ?_
  rintro e w0 ⟨rfl, hb⟩
  replace HB := hide (bt HB.out hb)
  replace FX := hide (FX.out.on hb)
  replace FY := hide (FY.out.on hb)
  clear hb
  have g0 := FX.out.cell
  have g1 := FY.out.cell
  go_wp2
  go_ret
  exact ⟨rfl, HB.out⟩

end Go.Proofs.Ytdcomaelhpjejaa
