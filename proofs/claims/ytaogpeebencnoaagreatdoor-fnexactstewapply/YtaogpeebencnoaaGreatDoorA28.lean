import Derived.Test.YtaogpeebencnoaaGreatDoorA21
namespace Go.Proofs.YtaogpeebencnoaaGreatDoor
open Go.RowKit Go.Deep

/-- one box, above a world -/
abbrev HeldJ (W0 : World) (b1 : Nat) (cs1 : Array Value) (W : World) : Prop := (∀ i, W.cell? ⟨b1, i, none⟩ = cs1[i]?) ∧ Hid (Below W0.heap.size W0 W ∧ b1 < W.heap.size)
theorem HeldJ.bel {W0 : World} {b1 : Nat} {cs1 : Array Value} {W : World} (h : HeldJ W0 b1 cs1 W) : Below W0.heap.size W0 W := h.2.out.1
theorem HeldJ.drew {W0 W : World} {b1 : Nat} {cs1 : Array Value} (h1 : Box W b1 cs1) (hb : Below W0.heap.size W0 W) : HeldJ W0 b1 cs1 W.drew := ⟨h1.cell, hb.drew, h1.lt⟩
theorem HeldJ.on {W0 W W' : World} {b1 : Nat} {cs1 : Array Value} (h : HeldJ W0 b1 cs1 W) (hb : Below W.heap.size W W') : HeldJ W0 b1 cs1 W' := by
  obtain ⟨h1, h4⟩ := h
  have hz := h4.out.1.size
  have q1 := h4.out.2
  exact ⟨fun i => (hb.cell (p := ⟨b1, i, none⟩) q1).trans (h1 i), h4.out.1.trans (hb.mono hz), Nat.lt_of_lt_of_le q1 hb.size⟩
theorem HeldJ.set {W0 W : World} {b1 : Nat} {cs1 : Array Value} (h : HeldJ W0 b1 cs1 W) {p : Addr} (hp : W0.heap.size ≤ p.block) (hne : b1 ≠ p.block) (u : Value) : HeldJ W0 b1 cs1 (W.setCell p u) :=
  ⟨fun i => (cell_setCell_ne _ _ _ _ hne).trans (h.1 i), h.2.out.1.setCell hp u, by simpa [World.setCell] using h.2.out.2⟩
theorem SvsOwn.wide {lo hi lo' hi' : Nat} {w : World} {v : Value} {Xl : List Sv} (h : SvsOwn lo hi w v Xl) (h1 : lo' ≤ lo) (h2 : hi ≤ hi') : SvsOwn lo' hi' w v Xl := by
  rcases h with h | ⟨b, off, cap, c, X, e1, e2, e3, e4, e5, ⟨q1, q2, q3, q4, q5, q6, q7, q8⟩⟩
  · exact Or.inl h
  · exact Or.inr ⟨b, off, cap, c, X, e1, e2, e3, e4, e5, ⟨q1, Nat.le_trans h1 q2, q3, Nat.lt_of_lt_of_le q4 h2, q5, Nat.le_trans q6 h2, q7, q8⟩⟩
theorem CpsOwn.wide {lo hi lo' hi' : Nat} {w : World} {v : Value} {Xl : List Cp} (h : CpsOwn lo hi w v Xl) (h1 : lo' ≤ lo) (h2 : hi ≤ hi') : CpsOwn lo' hi' w v Xl := by
  rcases h with h | ⟨b, off, cap, c, X, e1, e2, e3, e4, e5, ⟨q1, q2, q3, q4, q5, q6, q7, q8⟩⟩
  · exact Or.inl h
  · exact Or.inr ⟨b, off, cap, c, X, e1, e2, e3, e4, e5, ⟨q1, Nat.le_trans h1 q2, q3, Nat.lt_of_lt_of_le q4 h2, q5, Nat.le_trans q6 h2, q7, q8⟩⟩
theorem BesOwn.wide {lo hi lo' hi' : Nat} {w : World} {v : Value} {Xl : List Be} (h : BesOwn lo hi w v Xl) (h1 : lo' ≤ lo) (h2 : hi ≤ hi') : BesOwn lo' hi' w v Xl := by
  rcases h with h | ⟨b, off, cap, c, X, e1, e2, e3, e4, e5, ⟨q1, q2, q3, q4, q5, q6, q7, q8⟩⟩
  · exact Or.inl h
  · exact Or.inr ⟨b, off, cap, c, X, e1, e2, e3, e4, e5, ⟨q1, Nat.le_trans h1 q2, q3, Nat.lt_of_lt_of_le q4 h2, q5, Nat.le_trans q6 h2, q7, q8⟩⟩
theorem SbOwn.fin {w Wa w1 w2 w3 : World} {sv cv bv : Value} {B : Sb} (hb : Below w.heap.size w Wa) (hx : Below Wa.heap.size Wa w3) (hβ : w.heap.size + 1 < Wa.heap.size) (q1 : Wa.heap.size ≤ w1.heap.size) (q2 : w1.heap.size ≤ w2.heap.size) (q3 : w2.heap.size ≤ w3.heap.size)
    (h1 : SvsOwn Wa.heap.size w1.heap.size w3 sv B.ss) (h2 : CpsOwn w1.heap.size w2.heap.size w3 cv B.cs) (h3 : BesOwn w2.heap.size w3.heap.size w3 bv B.bs) (u0 u1 u2 u3 : Value) :
    Below w.heap.size w ((((w3.setCell ⟨w.heap.size + 1, 0, none⟩ u0).setCell ⟨w.heap.size + 1, 1, none⟩ u1).setCell ⟨w.heap.size + 1, 2, none⟩ u2).setCell ⟨w.heap.size + 1, 3, none⟩ u3) ∧
    SbOwn w.heap.size ((((w3.setCell ⟨w.heap.size + 1, 0, none⟩ u0).setCell ⟨w.heap.size + 1, 1, none⟩ u1).setCell ⟨w.heap.size + 1, 2, none⟩ u2).setCell ⟨w.heap.size + 1, 3, none⟩ u3).heap.size ((((w3.setCell ⟨w.heap.size + 1, 0, none⟩ u0).setCell ⟨w.heap.size + 1, 1, none⟩ u1).setCell ⟨w.heap.size + 1, 2, none⟩ u2).setCell ⟨w.heap.size + 1, 3, none⟩ u3) sv cv bv B := by
  have hz := hb.size
  refine ⟨?_, Wa.heap.size, w1.heap.size, w1.heap.size, w2.heap.size, w2.heap.size, w3.heap.size, ⟨⟨by omega, by simp [World.setCell]; omega⟩, ⟨by omega, by simp [World.setCell]; omega⟩, ⟨by omega, by simp [World.setCell]⟩, by omega, by omega, by omega⟩, ?_, ?_, ?_⟩
  · repeat (refine Below.setCell ?_ (by simp only []; omega) _)
    exact bt hb hx
  · repeat (refine SvsOwn.setLow ?_ (by simp only []; omega) _)
    exact h1
  · repeat (refine CpsOwn.setLow ?_ (by simp only []; omega) _)
    exact h2
  · repeat (refine BesOwn.setLow ?_ (by simp only []; omega) _)
    exact h3

set_option maxRecDepth 20000 in
set_option maxHeartbeats 16000000 in
theorem l12Book_any (lo : Nat) (sv cv bv : Value) (B : Sb) (w : World) (h : SbAt lo w sv cv bv B) (hn : SbSmall B) :
    Calls Tryz.prog 21 #[.agg #[.int .i64 B.now, sv, cv, bv]] w fun e w' => ∃ b0 m0 b1 m1 b2 m2, e = .returned (.agg #[.int .i64 B.now, .slice b0 B.ss.length m0, .slice b1 B.cs.length m1, .slice b2 B.bs.length m2]) ∧ Below w.heap.size w w' ∧ SbOwn w.heap.size w'.heap.size w' (.slice b0 B.ss.length m0) (.slice b1 B.cs.length m1) (.slice b2 B.bs.length m2) B := by
  have HK := hide h
  obtain ⟨a0, k0, rfl⟩ := h.svs.form
  obtain ⟨a1, k1, rfl⟩ := h.cps.form
  obtain ⟨a2, k2, rfl⟩ := h.bes.form
  obtain ⟨i0, hi0, hz0, hy0, hx0⟩ := info_parts Tryz.info88
  have HI0 := hide (And.intro hi0 (And.intro hz0 (And.intro hy0 hx0)))
  have HN0 : Hid (a0 = none → B.ss.length = 0) := fun e => by subst e; exact h.svs.nil
  have HZ0 := hide h.svs.sizes
  have HM0 := hide h.svs.max
  have hn0 : B.ss.length ≤ 1048576 := hn.1.1
  clear hi0 hz0 hy0 hx0
  obtain ⟨i1, hi1, hz1, hy1, hx1⟩ := info_parts Tryz.info92
  have HI1 := hide (And.intro hi1 (And.intro hz1 (And.intro hy1 hx1)))
  have HN1 : Hid (a1 = none → B.cs.length = 0) := fun e => by subst e; exact h.cps.nil
  have HZ1 := hide h.cps.sizes
  have HM1 := hide h.cps.max
  have hn1 : B.cs.length ≤ 1048576 := hn.2.1.1
  clear hi1 hz1 hy1 hx1
  obtain ⟨i2, hi2, hz2, hy2, hx2⟩ := info_parts Tryz.info90
  have HI2 := hide (And.intro hi2 (And.intro hz2 (And.intro hy2 hx2)))
  have HN2 : Hid (a2 = none → B.bs.length = 0) := fun e => by subst e; exact h.bes.nil
  have HZ2 := hide h.bes.sizes
  have HM2 := hide h.bes.max
  have hn2 : B.bs.length ≤ 1048576 := hn.2.2.1
  clear hi2 hz2 hy2 hx2
  clear h hn
  go_enter Tryz.func21, Tryz.ntmps21
  go_wp2_with fail
  generalize hWa : World.alloc (w.alloc _) _ = Wa
  have HB0 : Hid (Below w.heap.size w Wa) := by rw [← hWa]; exact (one_al w _).alloc (by simp) _
  have FA : Hid (Box Wa w.heap.size #[.int .i64 B.now, .slice a0 B.ss.length k0, .slice a1 B.cs.length k1, .slice a2 B.bs.length k2]) := by rw [← hWa]; exact (Box.new _ _ _ _ rfl).on (one_al _ _)
  have FR : Hid (Box Wa (w.heap.size + 1) #[.int .i64 0, .slice none 0 0, .slice none 0 0, .slice none 0 0]) := by rw [← hWa]; exact Box.new _ _ _ _ (by simp)
  clear hWa
  go_region_held_law (HeldJ w w.heap.size #[.int .i64 B.now, .slice a0 B.ss.length k0, .slice a1 B.cs.length k1, .slice a2 B.bs.length k2])
    (first
      | (with_reducible exact HeldJ.drew FA.out HB0.out)
      | (with_reducible exact HeldJ.on (by assumption) (one_al _ _))
      | (with_reducible exact HeldJ.on (by assumption) (by assumption))
      | (refine HeldJ.set ?_ (by simp only []; omega) (by simp only []; omega) _
         refine HeldJ.set ?_ (by simp only []; omega) (by simp only []; omega) _
         refine HeldJ.set ?_ (by simp only []; omega) (by simp only []; omega) _
         refine HeldJ.set ?_ (by simp only []; omega) (by simp only []; omega) _
         with_reducible assumption))
    (first
      | (refine step_append_fresh (by rfl) (.tmp 5) (.tmp 7) 32 (by rfl) 88 i0 (.agg #[.string ⟨#[]⟩, .int .i64 0, .bool false, .int .i64 0, .int .i64 0, .int .i64 0, .int .i64 0, .int .i64 0, .int .i64 0, .int .i64 0, .int .i64 0, .int .i64 0, .int .i64 0]) 13 112 Tryz.underlying32 HI0.out.1 HI0.out.2.1 HI0.out.2.2.1 HI0.out.2.2.2 (by rfl) (by decide) _ (by rfl) a0 B.ss.length k0 (flatV svL B.ss) (by rfl) (flatV_len svL_len _) HN0.out (HK.out.svs.news (HeldJ.bel (by assumption))) HM0.out (by omega) ?_
         intro v1 w1 hnew hb1
         have hX1 : Below Wa.heap.size Wa w1 := bt (show Below Wa.heap.size Wa _ from (by first | exact bt ((Below.refl _ _).drew) (one_al _ _) | exact bt (bt ((Below.refl _ _).drew) (one_al _ _)) (one_al _ _) | exact bt (bt (bt ((Below.refl _ _).drew) (one_al _ _)) (one_al _ _)) (one_al _ _))) hb1
         have HO1 : Hid (SvsOwn Wa.heap.size w1.heap.size w1 v1 B.ss) := hide ((SvsOwn.wide (NewRow.Svs hnew HM0.out HZ0.out) (Below.size (show Below Wa.heap.size Wa _ from (by first | exact bt ((Below.refl _ _).drew) (one_al _ _) | exact bt (bt ((Below.refl _ _).drew) (one_al _ _)) (one_al _ _) | exact bt (bt (bt ((Below.refl _ _).drew) (one_al _ _)) (one_al _ _)) (one_al _ _)))) (Nat.le_refl _)))
         obtain ⟨b0, m0, rfl⟩ := HO1.out.form
         have hq1 := hX1.size
         clear hnew)
      | (refine step_append_fresh (by rfl) (.tmp 9) (.tmp 11) 33 (by rfl) 92 i1 (.agg #[.string ⟨#[]⟩, .int .i64 0, .int .i64 0, .int .i64 0, .int .i64 0, .bool false, .string ⟨#[]⟩]) 7 72 Tryz.underlying33 HI1.out.1 HI1.out.2.1 HI1.out.2.2.1 HI1.out.2.2.2 (by rfl) (by decide) _ (by rfl) a1 B.cs.length k1 (flatV cpL B.cs) (by rfl) (flatV_len cpL_len _) HN1.out (HK.out.cps.news (HeldJ.bel (by assumption))) HM1.out (by omega) ?_
         intro v2 w2 hnew hb2
         have hX2 : Below Wa.heap.size Wa w2 := bt (bt hX1 (show Below w1.heap.size w1 _ from (by first | exact Below.refl _ _ | exact one_al _ _ | exact bt (one_al _ _) (one_al _ _) | exact bt (bt (one_al _ _) (one_al _ _)) (one_al _ _)))) hb2
         have HO2 : Hid (CpsOwn w1.heap.size w2.heap.size w2 v2 B.cs) := hide ((CpsOwn.wide (NewRow.Cps hnew HM1.out HZ1.out) (Below.size (show Below w1.heap.size w1 _ from (by first | exact Below.refl _ _ | exact one_al _ _ | exact bt (one_al _ _) (one_al _ _) | exact bt (bt (one_al _ _) (one_al _ _)) (one_al _ _)))) (Nat.le_refl _)))
         replace HO1 := hide (HO1.out.below (bt (show Below w1.heap.size w1 _ from (by first | exact Below.refl _ _ | exact one_al _ _ | exact bt (one_al _ _) (one_al _ _) | exact bt (bt (one_al _ _) (one_al _ _)) (one_al _ _))) hb2))
         obtain ⟨b1, m1, rfl⟩ := HO2.out.form
         have hq2 := (bt (show Below w1.heap.size w1 _ from (by first | exact Below.refl _ _ | exact one_al _ _ | exact bt (one_al _ _) (one_al _ _) | exact bt (bt (one_al _ _) (one_al _ _)) (one_al _ _))) hb2).size
         clear hnew)
      | (refine step_append_fresh (by rfl) (.tmp 13) (.tmp 15) 34 (by rfl) 90 i2 (.agg #[.string ⟨#[]⟩, .bool false]) 2 24 Tryz.underlying34 HI2.out.1 HI2.out.2.1 HI2.out.2.2.1 HI2.out.2.2.2 (by rfl) (by decide) _ (by rfl) a2 B.bs.length k2 (flatV beL B.bs) (by rfl) (flatV_len beL_len _) HN2.out (HK.out.bes.news (HeldJ.bel (by assumption))) HM2.out (by omega) ?_
         intro v3 w3 hnew hb3
         have hX3 : Below Wa.heap.size Wa w3 := bt (bt hX2 (show Below w2.heap.size w2 _ from (by first | exact Below.refl _ _ | exact one_al _ _ | exact bt (one_al _ _) (one_al _ _) | exact bt (bt (one_al _ _) (one_al _ _)) (one_al _ _)))) hb3
         have HO3 : Hid (BesOwn w2.heap.size w3.heap.size w3 v3 B.bs) := hide ((BesOwn.wide (NewRow.Bes hnew HM2.out HZ2.out) (Below.size (show Below w2.heap.size w2 _ from (by first | exact Below.refl _ _ | exact one_al _ _ | exact bt (one_al _ _) (one_al _ _) | exact bt (bt (one_al _ _) (one_al _ _)) (one_al _ _)))) (Nat.le_refl _)))
         replace HO1 := hide (HO1.out.below (bt (show Below w2.heap.size w2 _ from (by first | exact Below.refl _ _ | exact one_al _ _ | exact bt (one_al _ _) (one_al _ _) | exact bt (bt (one_al _ _) (one_al _ _)) (one_al _ _))) hb3))
         replace HO2 := hide (HO2.out.below (bt (show Below w2.heap.size w2 _ from (by first | exact Below.refl _ _ | exact one_al _ _ | exact bt (one_al _ _) (one_al _ _) | exact bt (bt (one_al _ _) (one_al _ _)) (one_al _ _))) hb3))
         obtain ⟨b2, m2, rfl⟩ := HO3.out.form
         have hq3 := (bt (show Below w2.heap.size w2 _ from (by first | exact Below.refl _ _ | exact one_al _ _ | exact bt (one_al _ _) (one_al _ _) | exact bt (bt (one_al _ _) (one_al _ _)) (one_al _ _))) hb3).size
         have r0 := (FR.out.on hX3).cell
         have g0 := (FR.out.on hX3).free
         clear hnew))
  all_goals
    have hfin := SbOwn.fin HB0.out hX3 FR.out.lt hq1 hq2 hq3 HO1.out HO2.out HO3.out (.int .i64 B.now) (.slice b0 B.ss.length m0) (.slice b1 B.cs.length m1) (.slice b2 B.bs.length m2)
    go_wp2
    refine bodyPost_ret (v := .agg #[.int .i64 B.now, .slice b0 B.ss.length m0, .slice b1 B.cs.length m1, .slice b2 B.bs.length m2]) (by simp [results, Tryz.results21, go_sem, r0]) rfl ⟨_, _, _, _, _, _, rfl, hfin.1, hfin.2⟩
end Go.Proofs.YtaogpeebencnoaaGreatDoor
