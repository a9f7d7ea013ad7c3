import Derived.Test.YtlednecohppljaaGreatV17
namespace Go.Proofs.YtlednecohppljaaGreat
open Go.RowKit Go.Deep

set_option maxRecDepth 20000 in
set_option maxHeartbeats 16000000 in
theorem toRaO_any (lo : Nat) (cs : List Value) (U : Ra) (w : World) (h : RaC lo w cs U) (hn : RaSmall U) :
    Calls Tryz.prog 80 #[.agg cs.toArray] w
      fun e w' => ∃ b0 m0, e = .returned (.agg (raL U b0 m0).toArray) ∧ Below w.heap.size w w' ∧ RisOwn w.heap.size w'.heap.size w' (.slice b0 U.fr.length m0) U.fr := by
  obtain ⟨a0, k0, rfl, h⟩ := h
  show Calls Tryz.prog 80 #[.agg #[.int .i64 U.ix, .slice a0 U.fr.length k0]] w _
  have HL := hide h
  have hn0 := hn
  clear h
  go_enter Tryz.func80, Tryz.ntmps80
  go_wp2_with fail
  obtain ⟨wz, hwz, FX, FR, FO, HB⟩ : ∃ wz, wz = ((w.alloc (.cells #[.int .i64 U.ix, .slice a0 U.fr.length k0] 92)).alloc (.cells #[.int .i64 0, .slice none 0 0] 102)).alloc (.cells #[.int .i64 U.ix, .slice none 0 0] 102) ∧
      Hid (Box wz w.heap.size #[.int .i64 U.ix, .slice a0 U.fr.length k0]) ∧ Hid (Box wz (w.heap.size + 1) #[.int .i64 0, .slice none 0 0]) ∧ Hid (Box wz (w.heap.size + 1 + 1) #[.int .i64 U.ix, .slice none 0 0]) ∧ Hid (Below w.heap.size w wz) :=
    ⟨_, rfl, ((Box.new w _ _ _ rfl).on (one_al _ _)).on (one_al _ _), (Box.new _ _ _ _ (by simp)).on (one_al _ _), Box.new _ _ _ _ (by simp), ((one_al _ _).trans ((one_al _ _).mono (by simp))).trans ((one_al _ _).mono (by simp; omega))⟩
  rw [← hwz]
  clear hwz
  generalize wz = v0 at *
  have hz0 : w.heap.size + 3 ≤ v0.heap.size := by have := FO.out.lt; omega
  refine (toRisO_any lo _ U.fr _ ((HL.out.below HB.out).l0) hn0).mono ?_
  rintro e x0 ⟨u, rfl, hb, hs⟩
  obtain ⟨b0, m0, rfl⟩ := hs.form
  have N0 := hide (hs.wide hz0 (Nat.le_refl _))
  replace FX := hide (FX.out.on hb)
  replace FR := hide (FR.out.on hb)
  replace FO := hide (FO.out.on hb)
  replace HB := hide (bt HB.out hb)
  clear hb hs hz0
  have g0 := FO.out.cell
  have g1 := FO.out.free
  have g2 := FR.out.cell
  have g3 := FR.out.free
  have g4 := FX.out.cell
  go_wp2
  refine bodyPost_ret (v := .agg #[.int .i64 U.ix, .slice b0 U.fr.length m0]) (by simp [results, Tryz.results80, go_sem, g2]) rfl ⟨b0, m0, rfl, ?_, ?_⟩
  · repeat (refine Below.setCell ?_ (by simp only []; omega) _)
    exact HB.out
  · refine RisOwn.wide (lo := w.heap.size + 3) (hi := x0.heap.size) ?_ (by omega) (by simp [World.setCell])
    repeat (refine RisOwn.set ?_ (by simp only []; omega) _)
    exact N0.out
end Go.Proofs.YtlednecohppljaaGreat
namespace Go.Proofs.YtlednecohppljaaGreat
open Go.RowKit Go.Deep

set_option maxRecDepth 20000 in
set_option maxHeartbeats 16000000 in
theorem toRmO_any (lo : Nat) (cs : List Value) (U : Rm) (w : World) (h : RmC lo w cs U) (hn : RmSmall U) :
    Calls Tryz.prog 9 #[.agg cs.toArray] w
      fun e w' => ∃ b0 m0, e = .returned (.agg (rmL U b0 m0).toArray) ∧ Below w.heap.size w w' ∧ RssOwn w.heap.size w'.heap.size w' (.slice b0 U.sl.length m0) U.sl := by
  obtain ⟨a0, k0, rfl, h⟩ := h
  show Calls Tryz.prog 9 #[.agg #[.int .i64 U.kd, .int .i64 U.fr, .int .i64 U.tt, .int .i64 U.ba, .int .i64 U.ix, .int .i64 U.kn, .string U.tx, .slice a0 U.sl.length k0]] w _
  have HL := hide h
  have hn0 := hn
  clear h
  go_enter Tryz.func9, Tryz.ntmps9
  go_wp2_with fail
  obtain ⟨wz, hwz, FX, FR, FO, HB⟩ : ∃ wz, wz = ((w.alloc (.cells #[.int .i64 U.kd, .int .i64 U.fr, .int .i64 U.tt, .int .i64 U.ba, .int .i64 U.ix, .int .i64 U.kn, .string U.tx, .slice a0 U.sl.length k0] 32)).alloc (.cells #[.int .i64 0, .int .i64 0, .int .i64 0, .int .i64 0, .int .i64 0, .int .i64 0, .string ⟨#[]⟩, .slice none 0 0] 45)).alloc (.cells #[.int .i64 U.kd, .int .i64 U.fr, .int .i64 U.tt, .int .i64 U.ba, .int .i64 U.ix, .int .i64 U.kn, .string U.tx, .slice none 0 0] 45) ∧
      Hid (Box wz w.heap.size #[.int .i64 U.kd, .int .i64 U.fr, .int .i64 U.tt, .int .i64 U.ba, .int .i64 U.ix, .int .i64 U.kn, .string U.tx, .slice a0 U.sl.length k0]) ∧ Hid (Box wz (w.heap.size + 1) #[.int .i64 0, .int .i64 0, .int .i64 0, .int .i64 0, .int .i64 0, .int .i64 0, .string ⟨#[]⟩, .slice none 0 0]) ∧ Hid (Box wz (w.heap.size + 1 + 1) #[.int .i64 U.kd, .int .i64 U.fr, .int .i64 U.tt, .int .i64 U.ba, .int .i64 U.ix, .int .i64 U.kn, .string U.tx, .slice none 0 0]) ∧ Hid (Below w.heap.size w wz) :=
    ⟨_, rfl, ((Box.new w _ _ _ rfl).on (one_al _ _)).on (one_al _ _), (Box.new _ _ _ _ (by simp)).on (one_al _ _), Box.new _ _ _ _ (by simp), ((one_al _ _).trans ((one_al _ _).mono (by simp))).trans ((one_al _ _).mono (by simp; omega))⟩
  rw [← hwz]
  clear hwz
  generalize wz = v0 at *
  have hz0 : w.heap.size + 3 ≤ v0.heap.size := by have := FO.out.lt; omega
  refine (toRssO_any lo _ U.sl _ ((HL.out.below HB.out).l0) hn0).mono ?_
  rintro e x0 ⟨u, rfl, hb, hs⟩
  obtain ⟨b0, m0, rfl⟩ := hs.form
  have N0 := hide (hs.wide hz0 (Nat.le_refl _))
  replace FX := hide (FX.out.on hb)
  replace FR := hide (FR.out.on hb)
  replace FO := hide (FO.out.on hb)
  replace HB := hide (bt HB.out hb)
  clear hb hs hz0
  have g0 := FO.out.cell
  have g1 := FO.out.free
  have g2 := FR.out.cell
  have g3 := FR.out.free
  have g4 := FX.out.cell
  go_wp2
  refine bodyPost_ret (v := .agg #[.int .i64 U.kd, .int .i64 U.fr, .int .i64 U.tt, .int .i64 U.ba, .int .i64 U.ix, .int .i64 U.kn, .string U.tx, .slice b0 U.sl.length m0]) (by simp [results, Tryz.results9, go_sem, g2]) rfl ⟨b0, m0, rfl, ?_, ?_⟩
  · repeat (refine Below.setCell ?_ (by simp only []; omega) _)
    exact HB.out
  · refine RssOwn.wide (lo := w.heap.size + 3) (hi := x0.heap.size) ?_ (by omega) (by simp [World.setCell])
    repeat (refine RssOwn.set ?_ (by simp only []; omega) _)
    exact N0.out
end Go.Proofs.YtlednecohppljaaGreat
namespace Go.Proofs.YtlednecohppljaaGreat
open Go.RowKit Go.Deep

set_option maxRecDepth 20000 in
set_option maxHeartbeats 16000000 in
theorem toRdO_any (lo : Nat) (cs : List Value) (U : Rd) (w : World) (h : RdC lo w cs U) (hn : RdSmall U) :
    Calls Tryz.prog 29 #[.agg cs.toArray] w
      fun e w' => ∃ b0 m0, e = .returned (.agg (rdL U b0 m0).toArray) ∧ Below w.heap.size w w' ∧ RssOwn w.heap.size w'.heap.size w' (.slice b0 U.sl.length m0) U.sl := by
  obtain ⟨a0, k0, rfl, h⟩ := h
  show Calls Tryz.prog 29 #[.agg #[.int .i64 U.pr, .int .i64 U.kn, .slice a0 U.sl.length k0]] w _
  have HL := hide h
  have hn0 := hn
  clear h
  go_enter Tryz.func29, Tryz.ntmps29
  go_wp2_with fail
  obtain ⟨wz, hwz, FX, FR, FO, HB⟩ : ∃ wz, wz = ((w.alloc (.cells #[.int .i64 U.pr, .int .i64 U.kn, .slice a0 U.sl.length k0] 24)).alloc (.cells #[.int .i64 0, .int .i64 0, .slice none 0 0] 37)).alloc (.cells #[.int .i64 U.pr, .int .i64 U.kn, .slice none 0 0] 37) ∧
      Hid (Box wz w.heap.size #[.int .i64 U.pr, .int .i64 U.kn, .slice a0 U.sl.length k0]) ∧ Hid (Box wz (w.heap.size + 1) #[.int .i64 0, .int .i64 0, .slice none 0 0]) ∧ Hid (Box wz (w.heap.size + 1 + 1) #[.int .i64 U.pr, .int .i64 U.kn, .slice none 0 0]) ∧ Hid (Below w.heap.size w wz) :=
    ⟨_, rfl, ((Box.new w _ _ _ rfl).on (one_al _ _)).on (one_al _ _), (Box.new _ _ _ _ (by simp)).on (one_al _ _), Box.new _ _ _ _ (by simp), ((one_al _ _).trans ((one_al _ _).mono (by simp))).trans ((one_al _ _).mono (by simp; omega))⟩
  rw [← hwz]
  clear hwz
  generalize wz = v0 at *
  have hz0 : w.heap.size + 3 ≤ v0.heap.size := by have := FO.out.lt; omega
  refine (toRssO_any lo _ U.sl _ ((HL.out.below HB.out).l0) hn0).mono ?_
  rintro e x0 ⟨u, rfl, hb, hs⟩
  obtain ⟨b0, m0, rfl⟩ := hs.form
  have N0 := hide (hs.wide hz0 (Nat.le_refl _))
  replace FX := hide (FX.out.on hb)
  replace FR := hide (FR.out.on hb)
  replace FO := hide (FO.out.on hb)
  replace HB := hide (bt HB.out hb)
  clear hb hs hz0
  have g0 := FO.out.cell
  have g1 := FO.out.free
  have g2 := FR.out.cell
  have g3 := FR.out.free
  have g4 := FX.out.cell
  go_wp2
  refine bodyPost_ret (v := .agg #[.int .i64 U.pr, .int .i64 U.kn, .slice b0 U.sl.length m0]) (by simp [results, Tryz.results29, go_sem, g2]) rfl ⟨b0, m0, rfl, ?_, ?_⟩
  · repeat (refine Below.setCell ?_ (by simp only []; omega) _)
    exact HB.out
  · refine RssOwn.wide (lo := w.heap.size + 3) (hi := x0.heap.size) ?_ (by omega) (by simp [World.setCell])
    repeat (refine RssOwn.set ?_ (by simp only []; omega) _)
    exact N0.out
end Go.Proofs.YtlednecohppljaaGreat
namespace Go.Proofs.YtlednecohppljaaGreat
open Go.RowKit Go.Deep

/-- a thing's inner list, apart from the row's own block g -/
def InA (w : World) (lo hi g : Nat) (x : AX) : Prop := ∃ l u, lo ≤ l ∧ u ≤ hi ∧ (g < l ∨ u ≤ g) ∧ FRow inL 1 w l u (.slice x.2.1 x.1.fr.length x.2.2) x.1.fr
/-- messages in a row that grows, all of it in [lo, hi) -/
structure AR (w : World) (lo hi g : Nat) (v : Value) (L : List AX) : Prop where
  row : FRow axL 2 w g (g + 1) v L
  low : lo ≤ g
  up : g < hi
  inn : ∀ i (h : i < L.length), InA w lo hi g L[i]
theorem AR.below {w w' : World} {lo hi g : Nat} {v : Value} {L : List AX} (h : AR w lo hi g v L) (hb : Below w.heap.size w w') : AR w' lo hi g v L :=
  ⟨h.row.below hb, h.low, h.up, fun i hi => by
    obtain ⟨l, u, h1, h2, h3, h4⟩ := h.inn i hi
    exact ⟨l, u, h1, h2, h3, h4.below hb⟩⟩
theorem AR.wide {w : World} {lo hi hi' g : Nat} {v : Value} {L : List AX} (h : AR w lo hi g v L) (hh : hi ≤ hi') : AR w lo hi' g v L :=
  ⟨h.row, h.low, Nat.lt_of_lt_of_le h.up hh, fun i hi => by
    obtain ⟨l, u, h1, h2, h3, h4⟩ := h.inn i hi
    exact ⟨l, u, h1, Nat.le_trans h2 hh, h3, h4⟩⟩
theorem AR.touch {w w' : World} {lo hi g : Nat} {v : Value} {L : List AX} (h : AR w lo hi g v L) {lo' hi' : Nat} (ht : Touch lo' hi' w w') (hh : hi ≤ lo' ∨ hi' ≤ lo) : AR w' lo hi g v L :=
  ⟨h.row.touch ht (by have := h.low; have := h.up; omega), h.low, h.up, fun i hi => by
    obtain ⟨l, u, h1, h2, h3, h4⟩ := h.inn i hi
    exact ⟨l, u, h1, h2, h3, h4.touch ht (by omega)⟩⟩
theorem AR.lt {w : World} {lo hi g : Nat} {v : Value} {L : List AX} (h : AR w lo hi g v L) : g < w.heap.size := by
  obtain ⟨g', cap, -, hr⟩ := h.row
  have h1 := hr.bs
  have h2 := hr.up
  have h3 := hr.lt
  omega
/-- behind an append of one message -/
theorem AR.snoc {W W' : World} {lo g : Nat} {v v' : Value} {L : List AX} {x : AX} (h : AR W lo W.heap.size g v L) (hx : InA W lo W.heap.size g x) (ht : Touch g (g + 1) W W') (hf : FRow axL 2 W' g (g + 1) v' (L ++ [x]) ∨ FRow axL 2 W' W.heap.size W'.heap.size v' (L ++ [x])) (hlo : lo ≤ W.heap.size) : ∃ g', AR W' lo W'.heap.size g' v' (L ++ [x]) := by
  have key : ∀ i (hi : i < (L ++ [x]).length), InA W lo W.heap.size g (L ++ [x])[i] := by
    intro i hi
    rw [List.getElem_append]
    split
    · exact h.inn i (by assumption)
    · simpa using hx
  rcases hf with hf | hf
  · refine ⟨g, hf, h.low, Nat.lt_of_lt_of_le h.up ht.size, fun i hi => ?_⟩
    obtain ⟨l, u, h1, h2, h3, h4⟩ := key i hi
    exact ⟨l, u, h1, Nat.le_trans h2 ht.size, h3, h4.touch ht (by omega)⟩
  · obtain ⟨g', cap, e1, e2⟩ := hf
    have hbs := e2.bs
    refine ⟨g', ⟨g', cap, e1, e2.own⟩, Nat.le_trans hlo hbs, e2.lt, fun i hi => ?_⟩
    obtain ⟨l, u, h1, h2, h3, h4⟩ := key i hi
    exact ⟨l, u, h1, Nat.le_trans h2 ht.size, Or.inr (Nat.le_trans h2 hbs), h4.touch ht (by omega)⟩
theorem AR.ras {w : World} {lo hi g : Nat} {v : Value} {L : List AX} {Xl : List Ra} (h : AR w lo hi g v L) (hL : L.map (·.1) = Xl) : RasAt lo w v Xl := by
  subst hL
  refine h.row.ras h.low fun i hi => ?_
  obtain ⟨l, u, h1, h2, h3, h4⟩ := h.inn i hi
  exact h4.ris.at.mono h1
end Go.Proofs.YtlednecohppljaaGreat
