
import Derived.Test.YthecacabcgaenaaWI3
import Derived.Deep.RegionHeld3
namespace Go.Proofs.Ythecacabcgaenaa
open Go.RowKit Go.Deep

/-- two boxes, above a world -/
abbrev Held2 (W0 : World) (b1 : Nat) (cs1 : Array Value) (b2 : Nat) (cs2 : Array Value) (W : World) : Prop :=
  (∀ i, W.cell? ⟨b1, i, none⟩ = cs1[i]?) ∧ (∀ i, W.cell? ⟨b2, i, none⟩ = cs2[i]?) ∧ Hid (Below W0.heap.size W0 W ∧ b1 < W0.heap.size ∧ b2 < W0.heap.size)
theorem Held2.drew {W0 : World} {b1 b2 : Nat} {cs1 cs2 : Array Value} (h1 : Box W0 b1 cs1) (h2 : Box W0 b2 cs2) : Held2 W0 b1 cs1 b2 cs2 W0.drew := ⟨h1.cell, h2.cell, (Below.refl _ _).drew, h1.lt, h2.lt⟩
theorem Held2.on {W0 W W' : World} {b1 b2 : Nat} {cs1 cs2 : Array Value} (h : Held2 W0 b1 cs1 b2 cs2 W) (hb : Below W.heap.size W W') : Held2 W0 b1 cs1 b2 cs2 W' := by
  obtain ⟨h1, h2, h4⟩ := h
  have hz := h4.out.1.size
  have q1 := h4.out.2.1
  have q2 := h4.out.2.2
  exact ⟨fun i => (hb.cell (p := ⟨b1, i, none⟩) (show b1 < W.heap.size by omega)).trans (h1 i), fun i => (hb.cell (p := ⟨b2, i, none⟩) (show b2 < W.heap.size by omega)).trans (h2 i), h4.out.1.trans (hb.mono hz), q1, q2⟩
/-- one box, above a world -/
abbrev Held1 (W0 : World) (b1 : Nat) (cs1 : Array Value) (W : World) : Prop :=
  (∀ i, W.cell? ⟨b1, i, none⟩ = cs1[i]?) ∧ Hid (Below W0.heap.size W0 W ∧ b1 < W0.heap.size)
theorem Held1.drew {W0 : World} {b1 : Nat} {cs1 : Array Value} (h1 : Box W0 b1 cs1) : Held1 W0 b1 cs1 W0.drew := ⟨h1.cell, (Below.refl _ _).drew, h1.lt⟩
theorem Held1.on {W0 W W' : World} {b1 : Nat} {cs1 : Array Value} (h : Held1 W0 b1 cs1 W) (hb : Below W.heap.size W W') : Held1 W0 b1 cs1 W' := by
  obtain ⟨h1, h4⟩ := h
  have hz := h4.out.1.size
  have q1 := h4.out.2
  exact ⟨fun i => (hb.cell (p := ⟨b1, i, none⟩) (show b1 < W.heap.size by omega)).trans (h1 i), h4.out.1.trans (hb.mono hz), q1⟩
set_option maxRecDepth 20000 in
set_option maxHeartbeats 8000000 in
theorem law_sworld (cs : List Value) (U : Sw) (w : World) (h0 : SwC 0 w cs U) :
    Calls Try.prog 3 #[.agg cs.toArray] w fun e w' => e = .returned (.bool true) ∧ Below w.heap.size w w' := by
  have H0 := hide h0
  obtain ⟨a0, k0, a1, k1, a2, k2, a3, k3, rfl, -⟩ := h0
  show Calls Try.prog 3 #[.agg #[.slice a3 U.past.length k3, .int .i64 U.bk.now, .slice a0 U.bk.ss.length k0, .slice a1 U.bk.cs.length k1, .slice a2 U.bk.bs.length k2]] w _
  go_enter Try.func3, Try.ntmps3
  go_wp2_with fail
  generalize hWa : w.alloc _ = Wa
  have HB : Hid (Below w.heap.size w Wa) := by rw [← hWa]; exact (one_al w _)
  have F0 : Hid (Box Wa w.heap.size #[.slice a3 U.past.length k3, .int .i64 U.bk.now, .slice a0 U.bk.ss.length k0, .slice a1 U.bk.cs.length k1, .slice a2 U.bk.bs.length k2]) := by rw [← hWa]; exact (Box.new _ _ _ _ rfl)
  clear hWa
  refine (szSw_c 0 _ U _ _ (by omega) (by omega) (H0.out.below HB.out)).mono ?_
  rintro e w1 ⟨q0, rfl, hb, r0a, r0b, r0c⟩
  replace HB : Hid (Below w.heap.size w w1) := bt HB.out hb
  replace F0 := hide (F0.out.on hb)
  have HQ := hide r0c
  clear hb r0c
  by_cases hneg0 : q0 < 0
  · go_wp2
    go_ret
    exact ⟨rfl, HB.out⟩
  have M0 : Hid (SwSmall U) := HQ.out (by omega)
  clear HQ
  clear r0a r0b
  have g0 := F0.out.cell
  have gl := F0.out.lt
  go_wp2_with fail
  clear g0 gl hneg0
  refine (toSw_c 0 _ U _ (H0.out.below HB.out) M0.out).mono ?_
  rintro e v0 ⟨xs0, rfl, hb0, hs0⟩
  have C0 : Hid (Below w1.heap.size w1 v0) := hb0
  have S0_0 := hide (hs0.mono (Nat.zero_le _))
  clear hs0 hb0
  go_wp2_with fail
  refine (specWorld_any 0 _ U _ S0_0.out).mono ?_
  rintro e vz ⟨rfl, hbz⟩
  have CZ : Hid (Below w1.heap.size w1 vz) := bt C0.out hbz
  replace F0 := hide (F0.out.on CZ.out)
  replace HB : Hid (Below w.heap.size w vz) := bt HB.out CZ.out
  clear CZ C0 S0_0
  have g0 := F0.out.cell
  have gl := F0.out.lt
  go_wp2_with fail
  clear g0 gl
  refine (toSw_c 0 _ U _ (H0.out.below HB.out) M0.out).mono ?_
  rintro e u0 ⟨ys0, rfl, hb, hs⟩
  replace HB : Hid (Below w.heap.size w u0) := bt HB.out hb
  replace F0 := hide (F0.out.on hb)
  have S0 := hide (hs.mono (Nat.zero_le _))
  obtain ⟨b0, m0, b1, m1, b2, m2, b3, m3, rfl, -⟩ := hs
  clear hb
  rw [show (swL U b0 m0 b1 m1 b2 m2 b3 m3).toArray = #[.slice b3 U.past.length m3, .int .i64 U.bk.now, .slice b0 U.bk.ss.length m0, .slice b1 U.bk.cs.length m1, .slice b2 U.bk.bs.length m2] from rfl]
  go_wp2_with fail
  generalize hWx : u0.alloc _ = W0
  have hbx : Below u0.heap.size u0 W0 := by rw [← hWx]; exact one_al _ _
  have X0 : Hid (Box W0 u0.heap.size #[.slice b3 U.past.length m3, .int .i64 U.bk.now, .slice b0 U.bk.ss.length m0, .slice b1 U.bk.cs.length m1, .slice b2 U.bk.bs.length m2]) := by rw [← hWx]; exact Box.new _ _ _ _ rfl
  replace HB : Hid (Below w.heap.size w W0) := bt HB.out hbx
  replace F0 := hide (F0.out.on hbx)
  replace S0 := hide (S0.out.below hbx)
  clear hWx hbx
  generalize hbeta : u0.heap.size = β0 at *
  refine (implWorld_any 0 _ U _ S0.out).mono ?_
  rintro e wz ⟨rfl, hb⟩
  replace HB : Hid (Below w.heap.size w wz) := bt HB.out hb
  replace F0 := hide (F0.out.on hb)
  replace X0 := hide (X0.out.on hb)
  replace S0 := hide (S0.out.below hb)
  clear hb
  generalize hQ : worldB U = Q
  clear hQ
  have K := hide (H0.out.below HB.out)
  go_wp2
  go_region_held3 (Held2 wz β0 #[.slice b3 U.past.length m3, .int .i64 U.bk.now, .slice b0 U.bk.ss.length m0, .slice b1 U.bk.cs.length m1, .slice b2 U.bk.bs.length m2] w.heap.size #[.slice a3 U.past.length k3, .int .i64 U.bk.now, .slice a0 U.bk.ss.length k0, .slice a1 U.bk.cs.length k1, .slice a2 U.bk.bs.length k2])
    (first
      | (with_reducible exact Held2.drew X0.out F0.out)
      | (with_reducible exact Held2.on (by assumption) (by assumption)))
    (first
      | (go_at_call 6
         refine (toSw_c 0 _ U _ (K.out.below ((Below.refl _ _).drew)) M0.out).mono ?_
         rintro e ve0 ⟨zs0, rfl, hbe, hse⟩
         have CE : Hid (Below wz.heap.size wz ve0) := bt ((Below.refl _ _).drew) hbe
         have SE := hide hse
         clear hse)
      | (go_at_call 8
         refine (eqSw_c _ _ _ _ U _ (S0.out.below CE.out) SE.out).mono ?_
         rintro e vf0 ⟨rfl, hbf⟩
         have CF : Hid (Below wz.heap.size wz vf0) := bt CE.out hbf))
  replace HB : Hid (Below w.heap.size w vf0) := bt HB.out CF.out
  clear CE CF SE K
  go_wp2
  go_ret
  exact ⟨rfl, HB.out⟩
end Go.Proofs.Ythecacabcgaenaa
