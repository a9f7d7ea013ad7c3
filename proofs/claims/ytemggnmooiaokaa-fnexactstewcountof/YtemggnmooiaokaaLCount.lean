
import Derived.Test.YtemggnmooiaokaaSCt
import Derived.Test.YtemggnmooiaokaaIC
import Derived.Deep.RegionHeld3
namespace Go.Proofs.Ytemggnmooiaokaa
open Go.RowKit Go.Deep

/-- two boxes, above a world -/
abbrev Held2 (W0 : World) (b1 : Nat) (cs1 : Array Value) (b2 : Nat) (cs2 : Array Value) (W : World) : Prop :=
  (∀ i, W.cell? ⟨b1, i, none⟩ = cs1[i]?) ∧ (∀ i, W.cell? ⟨b2, i, none⟩ = cs2[i]?) ∧ Hid (Below W0.heap.size W0 W ∧ b1 < W0.heap.size ∧ b2 < W0.heap.size)
theorem Held2.drew {W0 : World} {b1 b2 : Nat} {cs1 cs2 : Array Value} (h1 : Box W0 b1 cs1) (h2 : Box W0 b2 cs2) : Held2 W0 b1 cs1 b2 cs2 W0.drew := ⟨h1.cell, h2.cell, (Below.refl _ _).drew, h1.lt, h2.lt⟩
theorem Held2.on {W0 W W' : World} {b1 b2 : Nat} {cs1 cs2 : Array Value} (h : Held2 W0 b1 cs1 b2 cs2 W) (hb : Below W.heap.size W W') : Held2 W0 b1 cs1 b2 cs2 W' := by
  obtain ⟨h1, h2, h4⟩ := h
  have hz := h4.out.1.size
  have q1 := h4.out.2.1
  have q2 := h4.out.2.2
  exact ⟨fun i => (hb.cell (p := ⟨b1, i, none⟩) (show b1 < W.heap.size by omega)).trans (h1 i), fun i => (hb.cell (p := ⟨b2, i, none⟩) (show b2 < W.heap.size by omega)).trans (h2 i), h4.out.1.trans (hb.mono hz), q1, q2⟩
set_option maxRecDepth 20000 in
set_option maxHeartbeats 8000000 in
theorem law_count (sv cv bv : Value) (B : Sb) (s : ByteArray) (w : World) (h0 : SbAt 0 w sv cv bv B) (hs : s.size ≤ maxLen) :
    Calls Try.prog 4 #[.agg #[.int .i64 B.now, sv, cv, bv], .string s] w fun e w' => e = .returned (.bool true) ∧ Below w.heap.size w w' := by
  have HSZ := hide hs
  unfold maxLen at hs
  have H0 := hide h0
  obtain ⟨a0, k0, rfl⟩ := h0.svs.form
  obtain ⟨a1, k1, rfl⟩ := h0.cps.form
  obtain ⟨a2, k2, rfl⟩ := h0.bes.form
  clear h0
  by_cases hr : 1048576 < s.size
  · go_enter Try.func4, Try.ntmps4
    go_wp2
    go_ret
    exact ⟨rfl, one_al w _⟩
  go_enter Try.func4, Try.ntmps4
  go_wp2_with fail
  clear hr
  generalize hWa : w.alloc _ = Wa
  have HB : Hid (Below w.heap.size w Wa) := by rw [← hWa]; exact one_al w _
  have F0 : Hid (Box Wa w.heap.size #[.int .i64 B.now, .slice a0 B.ss.length k0, .slice a1 B.cs.length k1, .slice a2 B.bs.length k2]) := by rw [← hWa]; exact Box.new _ _ _ _ rfl
  clear hWa
  refine (szSb_any 0 _ _ _ B _ _ (by omega) (by omega) (H0.out.below HB.out)).mono ?_
  rintro e w1 ⟨q0, rfl, hb, ra, rb, rc⟩
  replace HB : Hid (Below w.heap.size w w1) := bt HB.out hb
  replace F0 := hide (F0.out.on hb)
  have HQ := hide rc
  clear hb rc
  by_cases hneg : q0 < 0
  · go_wp2
    go_ret
    exact ⟨rfl, HB.out⟩
  have M0 : Hid (SbSmall B) := HQ.out (by omega)
  clear HQ ra rb
  have g0 := F0.out.cell
  have gl := F0.out.lt
  go_wp2_with fail
  clear g0 gl hneg
  refine (toSb_any 0 _ _ _ B _ (H0.out.below HB.out) M0.out).mono ?_
  rintro e w2 ⟨x0, y0, x1, y1, x2, y2, rfl, hb, hs2⟩
  replace HB : Hid (Below w.heap.size w w2) := bt HB.out hb
  replace F0 := hide (F0.out.on hb)
  have S0 := hide (hs2.mono (Nat.zero_le _))
  clear hb hs2
  go_wp2_with fail
  refine (specCount_any 0 _ _ _ B s _ S0.out).mono ?_
  rintro e w3 ⟨c, rfl, hc, hb⟩
  replace HB : Hid (Below w.heap.size w w3) := bt HB.out hb
  replace F0 := hide (F0.out.on hb)
  have HC := hide hc.out
  clear hb hc S0
  have g0 := F0.out.cell
  have gl := F0.out.lt
  have g1 : ∀ o i, (w3.alloc o).cell? ⟨w.heap.size, i, none⟩ = _ := fun o i => (cell_alloc_lt _ _ _ _ gl).trans (g0 i)
  go_wp2_with fail
  clear g0 gl g1
  generalize hWx : w3.alloc _ = W1
  have hbx : Below w3.heap.size w3 W1 := by rw [← hWx]; exact one_al _ _
  have FC : Hid (Box W1 w3.heap.size #[.int .i64 c.li, .int .i64 c.re, .int .i64 c.ol, .int .i64 c.fa, .int .i64 c.en]) := by rw [← hWx]; exact Box.new _ _ _ _ rfl
  replace HB : Hid (Below w.heap.size w W1) := bt HB.out hbx
  replace F0 := hide (F0.out.on hbx)
  clear hWx hbx
  generalize hbeta : w3.heap.size = β at *
  refine (toSb_any 0 _ _ _ B _ (H0.out.below HB.out) M0.out).mono ?_
  rintro e w4 ⟨z0, t0, z1, t1, z2, t2, rfl, hb, hs4⟩
  replace HB : Hid (Below w.heap.size w w4) := bt HB.out hb
  replace F0 := hide (F0.out.on hb)
  replace FC := hide (FC.out.on hb)
  have S1 := hide (hs4.mono (Nat.zero_le _))
  clear hb hs4
  go_wp2_with fail
  generalize hWx : w4.alloc _ = W2
  have hbx : Below w4.heap.size w4 W2 := by rw [← hWx]; exact one_al _ _
  have FX : Hid (Box W2 w4.heap.size #[.int .i64 B.now, .slice z0 B.ss.length t0, .slice z1 B.cs.length t1, .slice z2 B.bs.length t2]) := by rw [← hWx]; exact Box.new _ _ _ _ rfl
  replace HB : Hid (Below w.heap.size w W2) := bt HB.out hbx
  replace F0 := hide (F0.out.on hbx)
  replace FC := hide (FC.out.on hbx)
  replace S1 := hide (S1.out.below hbx)
  clear hWx hbx
  generalize hgam : w4.heap.size = γ at *
  refine (implCount_any 0 _ _ _ B s _ S1.out HSZ.out).mono ?_
  rintro e w5 ⟨d, rfl, hd, hb⟩
  have hcd : d = c := hd.out.trans HC.out.symm
  subst hcd
  replace HB : Hid (Below w.heap.size w w5) := bt HB.out hb
  replace F0 := hide (F0.out.on hb)
  replace FC := hide (FC.out.on hb)
  replace FX := hide (FX.out.on hb)
  replace S1 := hide (S1.out.below hb)
  clear hb hd HC
  have g0 := FC.out.cell
  have gl := FC.out.lt
  have g1 : ∀ o i, (w5.alloc o).cell? ⟨β, i, none⟩ = _ := fun o i => (cell_alloc_lt _ _ _ _ gl).trans (g0 i)
  go_wp2_with fail
  clear g0 gl g1
  generalize hWx : w5.alloc _ = W3
  have hbx : Below w5.heap.size w5 W3 := by rw [← hWx]; exact one_al _ _
  replace HB : Hid (Below w.heap.size w W3) := bt HB.out hbx
  replace F0 := hide (F0.out.on hbx)
  replace FX := hide (FX.out.on hbx)
  replace S1 := hide (S1.out.below hbx)
  clear hWx hbx FC
  refine (eqCount_same d _).mono ?_
  rintro e w6 ⟨rfl, hb⟩
  replace HB : Hid (Below w.heap.size w w6) := bt HB.out hb
  replace F0 := hide (F0.out.on hb)
  replace FX := hide (FX.out.on hb)
  replace S1 := hide (S1.out.below hb)
  clear hb
  have K := hide (H0.out.below HB.out)
  go_wp2
  go_region_held3 (Held2 w6 γ #[.int .i64 B.now, .slice z0 B.ss.length t0, .slice z1 B.cs.length t1, .slice z2 B.bs.length t2] w.heap.size #[.int .i64 B.now, .slice a0 B.ss.length k0, .slice a1 B.cs.length k1, .slice a2 B.bs.length k2])
    (first
      | (with_reducible exact Held2.drew FX.out F0.out)
      | (with_reducible exact Held2.on (by assumption) (by assumption)))
    (first
      | (go_at_call 8
         refine (toSb_any 0 _ _ _ B _ (K.out.below ((Below.refl _ _).drew)) M0.out).mono ?_
         rintro e ve ⟨p0, r0, p1, r1, p2, r2, rfl, hbe, hse⟩
         have CE : Hid (Below w6.heap.size w6 ve) := bt ((Below.refl _ _).drew) hbe
         have SE := hide hse
         clear hse)
      | (go_at_call 10
         refine (eqSb_same _ _ _ _ B _ _ _ _ _ (S1.out.below CE.out) SE.out).mono ?_
         rintro e vf ⟨rfl, hbf⟩
         have CF : Hid (Below w6.heap.size w6 vf) := bt CE.out hbf))
  go_wp2
  go_ret
  exact ⟨rfl, bt HB.out CF.out⟩
end Go.Proofs.Ytemggnmooiaokaa
