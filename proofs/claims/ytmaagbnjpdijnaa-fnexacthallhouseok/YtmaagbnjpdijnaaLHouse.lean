
import Derived.Test.YtmaagbnjpdijnaaHO
import Derived.Deep.RegionHeld3
namespace Go.Proofs.Ytmaagbnjpdijnaa
open Go.RowKit Go.Deep

set_option maxRecDepth 20000 in
set_option maxHeartbeats 8000000 in
theorem law_house (cs : List Value) (U : Ho) (w : World) (h0 : HoC 0 w cs U)
    (himp : ∀ (cs : List Value) (w : World), HoC 0 w cs U → Calls Try.prog 16 #[.agg cs.toArray] w fun e w' => e = .returned (.bool (houseB U)) ∧ Below w.heap.size w w') :
    Calls Try.prog 4 #[.agg cs.toArray] w fun e w' => e = .returned (.bool true) ∧ Below w.heap.size w w' := by
  have H0 := hide h0
  have HIMP := hide himp
  clear himp
  obtain ⟨a0, k0, a1, k1, rfl, -⟩ := h0
  show Calls Try.prog 4 #[.agg #[.slice a0 U.tm.length k0, .slice a1 U.gr.length k1]] w _
  go_enter Try.func4, Try.ntmps4
  go_wp2_with fail
  generalize hWa : w.alloc _ = Wa
  have HB : Hid (Below w.heap.size w Wa) := by rw [← hWa]; exact (one_al w _)
  have F0 : Hid (Box Wa w.heap.size #[.slice a0 U.tm.length k0, .slice a1 U.gr.length k1]) := by rw [← hWa]; exact (Box.new _ _ _ _ rfl)
  clear hWa
  refine (szHo_c 0 _ U _ _ (by omega) (by omega) (H0.out.below HB.out)).mono ?_
  rintro e w1 ⟨q0, rfl, hb, r0a, r0b, r0c⟩
  replace HB : Hid (Below w.heap.size w w1) := bt HB.out hb
  replace F0 := hide (F0.out.on hb)
  have HQ := hide r0c
  clear hb r0c
  by_cases hneg0 : q0 < 0
  · go_wp2
    go_ret
    exact ⟨rfl, HB.out⟩
  have M0 : Hid (HoSmall U) := HQ.out (by omega)
  clear HQ
  clear r0a r0b
  have g0 := F0.out.cell
  have gl := F0.out.lt
  go_wp2_with fail
  clear g0 gl hneg0
  refine (toHo_c 0 _ U _ (H0.out.below HB.out) M0.out).mono ?_
  rintro e v0 ⟨xs0, rfl, hb0, hs0⟩
  have C0 : Hid (Below w1.heap.size w1 v0) := hb0
  have S0_0 := hide (hs0.mono (Nat.zero_le _))
  clear hs0 hb0
  go_wp2_with fail
  refine (specHouse_any 0 _ U _ S0_0.out).mono ?_
  rintro e vz ⟨rfl, hbz⟩
  have CZ : Hid (Below w1.heap.size w1 vz) := bt C0.out hbz
  replace F0 := hide (F0.out.on CZ.out)
  replace HB : Hid (Below w.heap.size w vz) := bt HB.out CZ.out
  clear CZ C0 S0_0
  have g0 := F0.out.cell
  have gl := F0.out.lt
  go_wp2_with fail
  clear g0 gl
  refine (toHo_c 0 _ U _ (H0.out.below HB.out) M0.out).mono ?_
  rintro e u0 ⟨ys0, rfl, hb, hs⟩
  replace HB : Hid (Below w.heap.size w u0) := bt HB.out hb
  replace F0 := hide (F0.out.on hb)
  have S0 := hide (hs.mono (Nat.zero_le _))
  obtain ⟨b0, m0, b1, m1, rfl, -⟩ := hs
  clear hb
  rw [show (hoL U b0 m0 b1 m1).toArray = #[.slice b0 U.tm.length m0, .slice b1 U.gr.length m1] from rfl]
  go_wp2_with fail
  generalize hWx : u0.alloc _ = W0
  have hbx : Below u0.heap.size u0 W0 := by rw [← hWx]; exact one_al _ _
  have X0 : Hid (Box W0 u0.heap.size #[.slice b0 U.tm.length m0, .slice b1 U.gr.length m1]) := by rw [← hWx]; exact Box.new _ _ _ _ rfl
  replace HB : Hid (Below w.heap.size w W0) := bt HB.out hbx
  replace F0 := hide (F0.out.on hbx)
  replace S0 := hide (S0.out.below hbx)
  clear hWx hbx
  generalize hbeta : u0.heap.size = β0 at *
  refine (HIMP.out _ _ S0.out).mono ?_
  rintro e wz ⟨rfl, hb⟩
  replace HB : Hid (Below w.heap.size w wz) := bt HB.out hb
  replace F0 := hide (F0.out.on hb)
  replace X0 := hide (X0.out.on hb)
  replace S0 := hide (S0.out.below hb)
  clear hb
  generalize hQ : houseB U = Q
  clear hQ
  have K := hide (H0.out.below HB.out)
  go_wp2
  go_region_held3 (Held2 wz β0 #[.slice b0 U.tm.length m0, .slice b1 U.gr.length m1] w.heap.size #[.slice a0 U.tm.length k0, .slice a1 U.gr.length k1])
    (first
      | (with_reducible exact Held2.drew X0.out F0.out)
      | (with_reducible exact Held2.on (by assumption) (by assumption)))
    (first
      | (go_at_call 8
         refine (toHo_c 0 _ U _ (K.out.below ((Below.refl _ _).drew)) M0.out).mono ?_
         rintro e ve0 ⟨zs0, rfl, hbe, hse⟩
         have CE : Hid (Below wz.heap.size wz ve0) := bt ((Below.refl _ _).drew) hbe
         have SE := hide hse
         clear hse)
      | (go_at_call 11
         refine (eqHo_c _ _ _ _ U _ (S0.out.below CE.out) SE.out).mono ?_
         rintro e vf0 ⟨rfl, hbf⟩
         have CF : Hid (Below wz.heap.size wz vf0) := bt CE.out hbf))
  replace HB : Hid (Below w.heap.size w vf0) := bt HB.out CF.out
  clear CE CF SE K
  go_wp2
  go_ret
  exact ⟨rfl, HB.out⟩
end Go.Proofs.Ytmaagbnjpdijnaa
