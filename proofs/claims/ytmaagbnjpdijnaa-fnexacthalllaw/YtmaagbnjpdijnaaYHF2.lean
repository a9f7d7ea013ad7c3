import Derived.Test.YtmaagbnjpdijnaaYHO0
import Derived.Test.YtmaagbnjpdijnaaYOXm
import Derived.Test.YtmaagbnjpdijnaaYOXt
import Derived.Test.YtmaagbnjpdijnaaYTA
import Derived.Test.YtmaagbnjpdijnaaYHA
import Derived.Test.YtmaagbnjpdijnaaYOWX
import Derived.Test.YtmaagbnjpdijnaaYM2
import Derived.Test.YtmaagbnjpdijnaaYDA
import Derived.Test.YtmaagbnjpdijnaaYA1
import Derived.Test.YtmaagbnjpdijnaaYBT
import Derived.Test.YtmaagbnjpdijnaaYLW
namespace Go.Proofs.Ytmaagbnjpdijnaa
open Go.RowKit Go.Deep

theorem few_small {L : List Tm} (h : TmsFew L) : TmsSmall L := ⟨h, fun _ _ => trivial⟩
/-- a house of one's own -/
def HoOwn (lo hi : Nat) (w : World) (cs : List Value) (U : Ho) : Prop :=
  ∃ a0 k0 a1 k1, ∃ t0 t1 g0 g1 : Nat, cs = hoL U a0 k0 a1 k1 ∧ lo ≤ t0 ∧ t1 ≤ hi ∧ lo ≤ g0 ∧ g1 ≤ hi ∧ t1 ≤ g0 ∧ TmsOwn t0 t1 w (.slice a0 U.tm.length k0) U.tm ∧ GrsOwn g0 g1 w (.slice a1 U.gr.length k1) U.gr
theorem HoOwn.at {lo hi : Nat} {w : World} {cs : List Value} {U : Ho} (h : HoOwn lo hi w cs U) : HoC lo w cs U := by
  obtain ⟨a0, k0, a1, k1, t0, t1, g0, g1, h1, z1, z2, z3, z4, z5, h2, h3⟩ := h
  exact ⟨a0, k0, a1, k1, h1, ⟨h2.at.mono z1, h3.at.mono z3⟩⟩
theorem HoOwn.below {lo hi : Nat} {w w' : World} {cs : List Value} {U : Ho} (h : HoOwn lo hi w cs U) (hb : Below w.heap.size w w') : HoOwn lo hi w' cs U := by
  obtain ⟨a0, k0, a1, k1, t0, t1, g0, g1, h1, z1, z2, z3, z4, z5, h2, h3⟩ := h
  exact ⟨a0, k0, a1, k1, t0, t1, g0, g1, h1, z1, z2, z3, z4, z5, h2.below hb, h3.below hb⟩
theorem HoOwn.touch {lo hi lo' hi' : Nat} {w w' : World} {cs : List Value} {U : Ho} (h : HoOwn lo hi w cs U) (ht : Touch lo' hi' w w') (ho : hi ≤ lo' ∨ hi' ≤ lo) : HoOwn lo hi w' cs U := by
  obtain ⟨a0, k0, a1, k1, t0, t1, g0, g1, h1, z1, z2, z3, z4, z5, h2, h3⟩ := h
  exact ⟨a0, k0, a1, k1, t0, t1, g0, g1, h1, z1, z2, z3, z4, z5, h2.touch ht (by omega), h3.touch ht (by omega)⟩
def endHo (k : Int) (U : Ho) : Int := k + (posTm U.tm U.tm.length : Int) + (posGr U.gr U.gr.length : Int)

set_option maxHeartbeats 4000000 in
theorem markHo_any (lo hi : Nat) (cs : List Value) (U : Ho) (k : Int) (w : World) (h : HoOwn lo hi w cs U) (hn : HoSmall U) (h0 : 0 ≤ k) (hk : k ≤ 1000000000000000000) (hhi : hi ≤ w.heap.size) :
    Calls Try.prog 12 #[.agg cs.toArray, .int .i64 k] w fun e w' => e = .returned (.int .i64 (endHo k U)) ∧ Touch lo hi w w' := by
  obtain ⟨a0, k0, a1, k1, t0, t1, g0, g1, rfl, z1, z2, z3, z4, z5, h2, h3⟩ := h
  show Calls Try.prog 12 #[.agg #[.slice a0 U.tm.length k0, .slice a1 U.gr.length k1], .int .i64 k] w _
  have hl := few_small hn.1
  have hp := posTm_le hl (Nat.le_refl U.tm.length)
  have hl1 := hl.1
  have H2 := hide h2
  have H3 := hide h3
  have HN := hide hn
  have HT := hide hl
  clear h2 h3 hn
  go_enter Try.func12, Try.ntmps12
  go_wp2_with fail
  generalize hWa : w.alloc _ = Wa
  have HB : Hid (Below w.heap.size w Wa) := by unfold Hid; rw [← hWa]; exact one_al w _
  have FX : Hid (Box Wa w.heap.size #[.slice a0 U.tm.length k0, .slice a1 U.gr.length k1]) := by unfold Hid; rw [← hWa]; exact Box.new _ _ _ _ rfl
  clear hWa
  refine (markTms_any t0 t1 _ U.tm k _ (H2.out.below HB.out) HT.out h0 (by omega)).mono ?_
  rintro e w1 ⟨rfl, ht, -⟩
  have HTo : Hid (Touch lo hi w w1) := (Touch.below HB.out).trans (ht.wide z1 z2)
  replace FX := hide (FX.out.touch ht (by omega))
  replace H3 := hide ((H3.out.below HB.out).touch ht (by omega))
  clear ht
  have gc := FX.out.cell
  go_wp2_with fail
  clear gc
  refine (markGrs_any g0 g1 _ U.gr _ _ H3.out HN.out.2 (by omega) (by omega)).mono ?_
  rintro e w2 ⟨rfl, ht, -⟩
  replace HTo : Hid (Touch lo hi w w2) := HTo.out.trans (ht.wide z3 z4)
  go_wp2
  go_ret
  exact ⟨rfl, HTo.out⟩

set_option maxRecDepth 20000 in
set_option maxHeartbeats 16000000 in
theorem toHoO_any (lo : Nat) (cs : List Value) (U : Ho) (w : World) (h : HoC lo w cs U) (hn : HoSmall U) :
    Calls Try.prog 8 #[.agg cs.toArray] w
      fun e w' => ∃ cs', e = .returned (.agg cs'.toArray) ∧ Below w.heap.size w w' ∧ HoOwn w.heap.size w'.heap.size w' cs' U := by
  obtain ⟨a0, k0, a1, k1, rfl, h⟩ := h
  show Calls Try.prog 8 #[.agg #[.slice a0 U.tm.length k0, .slice a1 U.gr.length k1]] w _
  have HL := hide h
  obtain ⟨hn0, hn1⟩ := hn
  clear h
  go_enter Try.func8, Try.ntmps8
  go_wp2_with fail
  obtain ⟨wz, hwz, FX, FR, FO, HB⟩ : ∃ wz, wz = ((w.alloc (.cells #[.slice a0 U.tm.length k0, .slice a1 U.gr.length k1] 25)).alloc (.cells #[.slice none 0 0, .slice none 0 0] 35)).alloc (.cells #[.slice none 0 0, .slice none 0 0] 35) ∧
      Hid (Box wz w.heap.size #[.slice a0 U.tm.length k0, .slice a1 U.gr.length k1]) ∧ Hid (Box wz (w.heap.size + 1) #[.slice none 0 0, .slice none 0 0]) ∧ Hid (Box wz (w.heap.size + 1 + 1) #[.slice none 0 0, .slice none 0 0]) ∧ Hid (Below w.heap.size w wz) :=
    ⟨_, rfl, ((Box.new w _ _ _ rfl).on (one_al _ _)).on (one_al _ _), (Box.new _ _ _ _ (by simp)).on (one_al _ _), Box.new _ _ _ _ (by simp), ((one_al _ _).trans ((one_al _ _).mono (by simp))).trans ((one_al _ _).mono (by simp; omega))⟩
  rw [← hwz]
  clear hwz
  generalize wz = v0 at *
  have hz0 : w.heap.size + 3 ≤ v0.heap.size := by have := FO.out.lt; omega
  refine (toTmsO_any lo _ U.tm _ ((HL.out.below HB.out).l0) (few_small hn0)).mono ?_
  rintro e x0 ⟨u, rfl, hb, hs⟩
  obtain ⟨b0, m0, rfl⟩ := hs.form
  have N0 := hide hs
  replace FX := hide (FX.out.on hb)
  replace FR := hide (FR.out.on hb)
  replace FO := hide (FO.out.on hb)
  replace HB := hide (bt HB.out hb)
  clear hb hs
  have g0 := FO.out.cell
  have g1 := FO.out.free
  have g2 := FX.out.cell
  go_wp2_with fail
  clear g0 g1 g2
  obtain ⟨v1, hwq, GX, GR, GO, GB, GN0, HZX, HZV⟩ : ∃ wq, wq = (x0.setCell ⟨w.heap.size + 1 + 1, 0, none⟩ (.slice b0 U.tm.length m0)) ∧ Hid (Box wq w.heap.size #[.slice a0 U.tm.length k0, .slice a1 U.gr.length k1]) ∧ Hid (Box wq (w.heap.size + 1) #[.slice none 0 0, .slice none 0 0]) ∧ Hid (Box wq (w.heap.size + 1 + 1) #[.slice b0 U.tm.length m0, .slice none 0 0]) ∧ Hid (Below w.heap.size w wq) ∧ Hid (TmsOwn v0.heap.size x0.heap.size wq (.slice b0 U.tm.length m0) U.tm) ∧ Hid (wq.heap.size = x0.heap.size) ∧ Hid (w.heap.size + 3 ≤ v0.heap.size) :=
    ⟨_, rfl, (FX.out.setFar (by simp only []; omega) _), (FR.out.setFar (by simp only []; omega) _), (FO.out.set (k := 0) (.slice b0 U.tm.length m0) (by simp)), (HB.out.setCell (by simp only []; omega) _), (N0.out.setLow (by simp only []; omega) _), (by unfold Hid; simp [World.setCell]), hz0⟩
  rw [← hwq]
  clear hwq FX FR FO HB N0 hz0
  have FX := GX
  have FR := GR
  have FO := GO
  have HB := GB
  have N0 := GN0
  clear GX GR GO GB GN0
  have hz1 : w.heap.size + 3 ≤ v1.heap.size := by have := FO.out.lt; omega
  refine (toGrsO_any lo _ U.gr _ ((HL.out.below HB.out).l1) hn1).mono ?_
  rintro e x1 ⟨u, rfl, hb, hs⟩
  obtain ⟨b1, m1, rfl⟩ := hs.form
  have N1 := hide hs
  have hzx : x0.heap.size = v1.heap.size := HZX.out.symm
  replace FX := hide (FX.out.on hb)
  replace FR := hide (FR.out.on hb)
  replace FO := hide (FO.out.on hb)
  replace HB := hide (bt HB.out hb)
  replace N0 := hide (N0.out.below hb)
  have hs1 := hb.size
  clear hb hs
  have g0 := FO.out.cell
  have g1 := FO.out.free
  have g2 := FR.out.cell
  have g3 := FR.out.free
  have g4 := FX.out.cell
  go_wp2
  have hv := HZV.out
  have hx0 := N0.out
  have hx1 := hzx
  refine bodyPost_ret (v := .agg #[.slice b0 U.tm.length m0, .slice b1 U.gr.length m1]) (by simp [results, Try.results8, go_sem, g2]) rfl ⟨hoL U b0 m0 b1 m1, rfl, ?_, b0, m0, b1, m1, v0.heap.size, x0.heap.size, v1.heap.size, x1.heap.size, rfl, by omega, ?_, by omega, ?_, by omega, ?_, ?_⟩
  · repeat (refine Below.setCell ?_ (by simp only []; omega) _)
    exact HB.out
  · simp [World.setCell]; omega
  · simp [World.setCell]
  · repeat (refine TmsOwn.setLow ?_ (by simp only []; omega) _)
    exact N0.out
  · repeat (refine GrsOwn.setLow ?_ (by simp only []; omega) _)
    exact N1.out
end Go.Proofs.Ytmaagbnjpdijnaa

