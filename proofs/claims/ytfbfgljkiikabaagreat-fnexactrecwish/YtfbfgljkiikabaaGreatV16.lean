import Derived.Test.YtfbfgljkiikabaaGreatV11
namespace Go.Proofs.YtfbfgljkiikabaaGreat
open Go.RowKit Go.Deep

set_option maxRecDepth 20000 in
set_option maxHeartbeats 16000000 in
theorem toRmO_any (lo : Nat) (cs : List Value) (U : Rm) (w : World) (h : RmC lo w cs U) (hn : RmSmall U) :
    Calls Tryz.prog 10 #[.agg cs.toArray] w
      fun e w' => ∃ b0 m0, e = .returned (.agg (rmL U b0 m0).toArray) ∧ Below w.heap.size w w' ∧ RssOwn w.heap.size w'.heap.size w' (.slice b0 U.sl.length m0) U.sl := by
  obtain ⟨a0, k0, rfl, h⟩ := h
  show Calls Tryz.prog 10 #[.agg #[.int .i64 U.kd, .int .i64 U.fr, .int .i64 U.tt, .int .i64 U.ba, .int .i64 U.ix, .int .i64 U.kn, .string U.tx, .slice a0 U.sl.length k0]] w _
  have HL := hide h
  have hn0 := hn
  clear h
  go_enter Tryz.func10, Tryz.ntmps10
  go_wp2_with fail
  obtain ⟨wz, hwz, FX, FR, FO, HB⟩ : ∃ wz, wz = ((w.alloc (.cells #[.int .i64 U.kd, .int .i64 U.fr, .int .i64 U.tt, .int .i64 U.ba, .int .i64 U.ix, .int .i64 U.kn, .string U.tx, .slice a0 U.sl.length k0] 32)).alloc (.cells #[.int .i64 0, .int .i64 0, .int .i64 0, .int .i64 0, .int .i64 0, .int .i64 0, .string ⟨#[]⟩, .slice none 0 0] 45)).alloc (.cells #[.int .i64 U.kd, .int .i64 U.fr, .int .i64 U.tt, .int .i64 U.ba, .int .i64 U.ix, .int .i64 U.kn, .string U.tx, .slice none 0 0] 45) ∧
      Hid (Box wz w.heap.size #[.int .i64 U.kd, .int .i64 U.fr, .int .i64 U.tt, .int .i64 U.ba, .int .i64 U.ix, .int .i64 U.kn, .string U.tx, .slice a0 U.sl.length k0]) ∧ Hid (Box wz (w.heap.size + 1) #[.int .i64 0, .int .i64 0, .int .i64 0, .int .i64 0, .int .i64 0, .int .i64 0, .string ⟨#[]⟩, .slice none 0 0]) ∧ Hid (Box wz (w.heap.size + 1 + 1) #[.int .i64 U.kd, .int .i64 U.fr, .int .i64 U.tt, .int .i64 U.ba, .int .i64 U.ix, .int .i64 U.kn, .string U.tx, .slice none 0 0]) ∧ Hid (Below w.heap.size w wz) :=
    ⟨_, rfl, ((Box.new w _ _ _ rfl).on (one_al _ _)).on (one_al _ _), (Box.new _ _ _ _ (by simp)).on (one_al _ _), Box.new _ _ _ _ (by simp), ((one_al _ _).trans ((one_al _ _).mono (by simp))).trans ((one_al _ _).mono (by simp; omega))⟩
  rw [← hwz]
  clear hwz
  generalize wz = v0 at *
  have hz0 : w.heap.size + 3 ≤ v0.heap.size := by have := FO.out.lt; omega
  refine (toRssO_any lo _ U.sl _ ((HL.out.below HB.out).l0) hn0).mono ?_
  rintro e x0 ⟨u, rfl, hb, hs⟩
  obtain ⟨b0, m0, rfl⟩ := hs.form
  have N0 := hide (hs.wide hz0 (Nat.le_refl _))
  replace FX := hide (FX.out.on hb)
  replace FR := hide (FR.out.on hb)
  replace FO := hide (FO.out.on hb)
  replace HB := hide (bt HB.out hb)
  clear hb hs hz0
  have g0 := FO.out.cell
  have g1 := FO.out.free
  have g2 := FR.out.cell
  have g3 := FR.out.free
  have g4 := FX.out.cell
  go_wp2
  refine bodyPost_ret (v := .agg #[.int .i64 U.kd, .int .i64 U.fr, .int .i64 U.tt, .int .i64 U.ba, .int .i64 U.ix, .int .i64 U.kn, .string U.tx, .slice b0 U.sl.length m0]) (by simp [results, Tryz.results10, go_sem, g2]) rfl ⟨b0, m0, rfl, ?_, ?_⟩
  · repeat (refine Below.setCell ?_ (by simp only []; omega) _)
    exact HB.out
  · refine RssOwn.wide (lo := w.heap.size + 3) (hi := x0.heap.size) ?_ (by omega) (by simp [World.setCell])
    repeat (refine RssOwn.set ?_ (by simp only []; omega) _)
    exact N0.out
end Go.Proofs.YtfbfgljkiikabaaGreat
