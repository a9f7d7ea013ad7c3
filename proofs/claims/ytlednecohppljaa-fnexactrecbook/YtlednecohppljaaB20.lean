import Derived.Test.YtlednecohppljaaB17
import Derived.Test.YtlednecohppljaaB18
import Derived.Test.YtlednecohppljaaB19
namespace Go.Proofs.Ytlednecohppljaa
open Go.RowKit Go.Deep

set_option maxRecDepth 20000 in
set_option maxHeartbeats 16000000 in
theorem toRaO_any (lo : Nat) (cs : List Value) (U : Ra) (w : World) (h : RaC lo w cs U) (hn : RaSmall U) :
    Calls Try.prog 62 #[.agg cs.toArray] w
      fun e w' => ∃ b0 m0, e = .returned (.agg (raL U b0 m0).toArray) ∧ Below w.heap.size w w' ∧ RisOwn w.heap.size w'.heap.size w' (.slice b0 U.fr.length m0) U.fr := by
  obtain ⟨a0, k0, rfl, h⟩ := h
  show Calls Try.prog 62 #[.agg #[.int .i64 U.ix, .slice a0 U.fr.length k0]] w _
  have HL := hide h
  have hn0 := hn
  clear h
  go_enter Try.func62, Try.ntmps62
  go_wp2_with fail
  obtain ⟨wz, hwz, FX, FR, FO, HB⟩ : ∃ wz, wz = ((w.alloc (.cells #[.int .i64 U.ix, .slice a0 U.fr.length k0] 88)).alloc (.cells #[.int .i64 0, .slice none 0 0] 99)).alloc (.cells #[.int .i64 U.ix, .slice none 0 0] 99) ∧
      Hid (Box wz w.heap.size #[.int .i64 U.ix, .slice a0 U.fr.length k0]) ∧ Hid (Box wz (w.heap.size + 1) #[.int .i64 0, .slice none 0 0]) ∧ Hid (Box wz (w.heap.size + 1 + 1) #[.int .i64 U.ix, .slice none 0 0]) ∧ Hid (Below w.heap.size w wz) :=
    ⟨_, rfl, ((Box.new w _ _ _ rfl).on (one_al _ _)).on (one_al _ _), (Box.new _ _ _ _ (by simp)).on (one_al _ _), Box.new _ _ _ _ (by simp), ((one_al _ _).trans ((one_al _ _).mono (by simp))).trans ((one_al _ _).mono (by simp; omega))⟩
  rw [← hwz]
  clear hwz
  generalize wz = v0 at *
  have hz0 : w.heap.size + 3 ≤ v0.heap.size := by have := FO.out.lt; omega
  refine (toRisO_any lo _ U.fr _ ((HL.out.below HB.out).l0) hn0).mono ?_
  rintro e x0 ⟨u, rfl, hb, hs⟩
  obtain ⟨b0, m0, rfl⟩ := hs.form
  have N0 := hide (hs.wide hz0 (Nat.le_refl _))
  replace FX := hide (FX.out.on hb)
  replace FR := hide (FR.out.on hb)
  replace FO := hide (FO.out.on hb)
  replace HB := hide (bt HB.out hb)
  clear hb hs hz0
  have g0 := FO.out.cell
  have g1 := FO.out.free
  have g2 := FR.out.cell
  have g3 := FR.out.free
  have g4 := FX.out.cell
  go_wp2
  refine bodyPost_ret (v := .agg #[.int .i64 U.ix, .slice b0 U.fr.length m0]) (by simp [results, Try.results62, go_sem, g2]) rfl ⟨b0, m0, rfl, ?_, ?_⟩
  · repeat (refine Below.setCell ?_ (by simp only []; omega) _)
    exact HB.out
  · refine RisOwn.wide (lo := w.heap.size + 3) (hi := x0.heap.size) ?_ (by omega) (by simp [World.setCell])
    repeat (refine RisOwn.set ?_ (by simp only []; omega) _)
    exact N0.out
end Go.Proofs.Ytlednecohppljaa
namespace Go.Proofs.Ytlednecohppljaa
open Go.RowKit Go.Deep

/-- a stewards' book -/
structure Sb where
  now : Int
  ss : List Sv
  cs : List Cp
  bs : List Be
/-- a book in memory, all of it above lo -/
structure SbAt (lo : Nat) (w : World) (sv cv bv : Value) (B : Sb) : Prop where
  svs : SvsAt lo w sv B.ss
  cps : CpsAt lo w cv B.cs
  bes : BesAt lo w bv B.bs
theorem SbAt.below {lo : Nat} {w w' : World} {sv cv bv : Value} {B : Sb} (h : SbAt lo w sv cv bv B) (hb : Below w.heap.size w w') : SbAt lo w' sv cv bv B :=
  ⟨h.svs.below hb, h.cps.below hb, h.bes.below hb⟩
theorem SbAt.mono {lo lo' : Nat} {w : World} {sv cv bv : Value} {B : Sb} (h : SbAt lo w sv cv bv B) (hl : lo' ≤ lo) : SbAt lo' w sv cv bv B :=
  ⟨h.svs.mono hl, h.cps.mono hl, h.bes.mono hl⟩
theorem SbAt.set {lo : Nat} {w : World} {sv cv bv : Value} {B : Sb} (h : SbAt lo w sv cv bv B) {p : Addr} (hp : p.block < lo) (u : Value) : SbAt lo (w.setCell p u) sv cv bv B :=
  ⟨h.svs.set hp u, h.cps.set hp u, h.bes.set hp u⟩
def SbSmall (B : Sb) : Prop := SvsSmall B.ss ∧ CpsSmall B.cs ∧ BesSmall B.bs

section
variable (lo : Nat) (sv cv bv : Value) (B : Sb) (w : World)

end
end Go.Proofs.Ytlednecohppljaa
