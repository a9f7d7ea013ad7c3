import Derived.Test.YtmaagbnjpdijnaaYHG0
import Derived.Test.YtmaagbnjpdijnaaYHG1
import Derived.Test.YtmaagbnjpdijnaaYOXM
import Derived.Test.YtmaagbnjpdijnaaYOXm
import Derived.Test.YtmaagbnjpdijnaaYOTh
import Derived.Test.YtmaagbnjpdijnaaYP1
import Derived.Test.YtmaagbnjpdijnaaYB1
import Derived.Test.YtmaagbnjpdijnaaYTA
import Derived.Test.YtmaagbnjpdijnaaYOWX
import Derived.Test.YtmaagbnjpdijnaaYM2
import Derived.Test.YtmaagbnjpdijnaaYOXF
import Derived.Test.YtmaagbnjpdijnaaYDA
import Derived.Test.YtmaagbnjpdijnaaYA1
namespace Go.Proofs.Ytmaagbnjpdijnaa
open Go.RowKit Go.Deep

/-- a law of one shape, of one's own -/
def LwOwn (lo hi : Nat) (w : World) (cs : List Value) (x : Sh) (Ms : List Md) (Ts : List Tm) : Prop :=
  ∃ a0 k0 a1 k1 a2 k2, ∃ s0 s1 m0 m1 t0 t1 : Nat, cs = lwL ⟨[x], Ms, Ts⟩ a0 k0 a1 k1 a2 k2 ∧ lo ≤ s0 ∧ s1 ≤ hi ∧ lo ≤ m0 ∧ m1 ≤ hi ∧ lo ≤ t0 ∧ t1 ≤ hi ∧ (s1 ≤ m0 ∨ m1 ≤ s0) ∧ (s1 ≤ t0 ∨ t1 ≤ s0) ∧ (m1 ≤ t0 ∨ t1 ≤ m0) ∧
    ShOne s0 s1 w (.slice a0 1 k0) x ∧ MdsOwn m0 m1 w (.slice a1 Ms.length k1) Ms ∧ TmsOwn t0 t1 w (.slice a2 Ts.length k2) Ts
theorem LwOwn.at {lo hi : Nat} {w : World} {cs : List Value} {x : Sh} {Ms : List Md} {Ts : List Tm} (h : LwOwn lo hi w cs x Ms Ts) : LwC lo w cs ⟨[x], Ms, Ts⟩ := by
  obtain ⟨a0, k0, a1, k1, a2, k2, s0, s1, m0, m1, t0, t1, h1, z1, z2, z3, z4, z5, z6, z7, z8, z9, g1, g2, g3⟩ := h
  have q1 := g1.at
  exact ⟨a0, k0, a1, k1, a2, k2, h1, ⟨q1.mono z1, g2.at.mono z3, g3.at.mono z5⟩⟩
theorem LwOwn.below {lo hi : Nat} {w w' : World} {cs : List Value} {x : Sh} {Ms : List Md} {Ts : List Tm} (h : LwOwn lo hi w cs x Ms Ts) (hb : Below w.heap.size w w') : LwOwn lo hi w' cs x Ms Ts := by
  obtain ⟨a0, k0, a1, k1, a2, k2, s0, s1, m0, m1, t0, t1, h1, z1, z2, z3, z4, z5, z6, z7, z8, z9, g1, g2, g3⟩ := h
  exact ⟨a0, k0, a1, k1, a2, k2, s0, s1, m0, m1, t0, t1, h1, z1, z2, z3, z4, z5, z6, z7, z8, z9, g1.below hb, g2.below hb, g3.below hb⟩
theorem LwOwn.touch {lo hi lo' hi' : Nat} {w w' : World} {cs : List Value} {x : Sh} {Ms : List Md} {Ts : List Tm} (h : LwOwn lo hi w cs x Ms Ts) (ht : Touch lo' hi' w w') (ho : hi ≤ lo' ∨ hi' ≤ lo) : LwOwn lo hi w' cs x Ms Ts := by
  obtain ⟨a0, k0, a1, k1, a2, k2, s0, s1, m0, m1, t0, t1, h1, z1, z2, z3, z4, z5, z6, z7, z8, z9, g1, g2, g3⟩ := h
  exact ⟨a0, k0, a1, k1, a2, k2, s0, s1, m0, m1, t0, t1, h1, z1, z2, z3, z4, z5, z6, z7, z8, z9, g1.touch ht (by omega), g2.touch ht (by omega), g3.touch ht (by omega)⟩
def endLw (k : Int) (x : Sh) (Ms : List Md) (Ts : List Tm) : Int := endSh k x + (posMd Ms Ms.length : Int) + (posTm Ts Ts.length : Int)
def mkLwM (k : Int) (x : Sh) (Ms : List Md) : List Md := mkMds (endSh k x) Ms
def mkLwT (k : Int) (x : Sh) (Ms : List Md) (Ts : List Tm) : List Tm := mkTms (endSh k x + (posMd Ms Ms.length : Int)) Ts
structure LwFew (x : Sh) (Ms : List Md) (Ts : List Tm) : Prop where
  f : FdsSmall x.fields
  m : MdsSmall Ms
  t : TmsSmall Ts
theorem endSh_bd {k : Int} {x : Sh} (h : FdsSmall x.fields) (h0 : 0 ≤ k) (h1 : k ≤ 1000000) : 0 ≤ endSh k x ∧ endSh k x ≤ 4000000000000 := by
  have hp := posFd_le h (Nat.le_refl x.fields.length)
  have := h.1
  unfold endSh
  omega

set_option maxRecDepth 20000 in
set_option maxHeartbeats 8000000 in
theorem markLw_any (lo hi : Nat) (cs : List Value) (x : Sh) (Ms : List Md) (Ts : List Tm) (k : Int) (w : World) (h : LwOwn lo hi w cs x Ms Ts) (hn : LwFew x Ms Ts) (h0 : 0 ≤ k) (hk : k ≤ 1000000) (hhi : hi ≤ w.heap.size) :
    Calls Try.prog 13 #[.agg cs.toArray, .int .i64 k] w fun e w' => e = .returned (.int .i64 (endLw k x Ms Ts)) ∧ Touch lo hi w w' ∧ LwOwn lo hi w' cs (mkSh k x) (mkLwM k x Ms) (mkLwT k x Ms Ts) := by
  obtain ⟨a0, k0, a1, k1, a2, k2, s0, s1, m0, m1, t0, t1, rfl, z1, z2, z3, z4, z5, z6, z7, z8, z9, g1, g2, g3⟩ := h
  show Calls Try.prog 13 #[.agg #[.slice a0 1 k0, .slice a1 Ms.length k1, .slice a2 Ts.length k2], .int .i64 k] w _
  have hb1 := endSh_bd hn.f h0 hk
  have hb2 := posMd_le hn.m (Nat.le_refl Ms.length)
  have hb3 := hn.m.1
  have HN := hide hn
  have H1 := hide g1
  have H2 := hide g2
  have H3 := hide g3
  have HQ : Hid (endLw k x Ms Ts = endSh k x + (posMd Ms Ms.length : Int) + (posTm Ts Ts.length : Int)) := rfl
  clear g1 g2 g3 hn
  go_enter Try.func13, Try.ntmps13
  go_wp2_with fail
  generalize hWa : w.alloc _ = Wa
  have hb : Below w.heap.size w Wa := by rw [← hWa]; exact one_al w _
  have FX : Hid (Box Wa w.heap.size #[.slice a0 1 k0, .slice a1 Ms.length k1, .slice a2 Ts.length k2]) := by unfold Hid; rw [← hWa]; exact Box.new _ _ _ _ rfl
  have HT : Hid (Touch lo hi w Wa) := Touch.below hb
  replace H1 := hide (H1.out.below hb)
  replace H2 := hide (H2.out.below hb)
  replace H3 := hide (H3.out.below hb)
  clear hWa hb
  refine (markSh1_any s0 s1 _ x k _ H1.out HN.out.f h0 (by omega)).mono ?_
  rintro e w1 ⟨rfl, ht, ho⟩
  replace FX := hide (FX.out.touch ht (by omega))
  replace HT : Hid (Touch lo hi w w1) := HT.out.trans (ht.wide z1 z2)
  replace H1 := hide ho
  replace H2 := hide (H2.out.touch ht (by omega))
  replace H3 := hide (H3.out.touch ht (by omega))
  clear ht ho
  generalize hq1 : endSh k x = q1 at *
  have HQ1 := hide hq1
  clear hq1
  have gc := FX.out.cell
  go_wp2_with fail
  clear gc
  refine (markMdsO_any m0 m1 _ Ms q1 _ H2.out HN.out.m (by omega) (by omega)).mono ?_
  rintro e w2 ⟨rfl, ht, ho⟩
  replace FX := hide (FX.out.touch ht (by omega))
  replace HT : Hid (Touch lo hi w w2) := HT.out.trans (ht.wide z3 z4)
  replace H1 := hide (H1.out.touch ht (by omega))
  replace H2 := hide ho
  replace H3 := hide (H3.out.touch ht (by omega))
  clear ht ho
  generalize hq2 : q1 + (posMd Ms Ms.length : Int) = q2 at *
  have HQ2 := hide hq2
  have hq2b : 0 ≤ q2 ∧ q2 ≤ 8000000000000 := by omega
  clear hq2
  have gc := FX.out.cell
  go_wp2_with fail
  clear gc
  refine (markTms_any t0 t1 _ Ts q2 _ H3.out HN.out.t (by omega) (by omega)).mono ?_
  rintro e w3 ⟨rfl, ht, ho⟩
  replace HT : Hid (Touch lo hi w w3) := HT.out.trans (ht.wide z5 z6)
  replace H1 := hide (H1.out.touch ht (by omega))
  replace H2 := hide (H2.out.touch ht (by omega))
  replace H3 := hide ho
  clear ht ho
  go_wp2
  go_ret
  have e1 : mkLwM k x Ms = mkMds q1 Ms := by unfold mkLwM; rw [HQ1.out]
  have e2 : mkLwT k x Ms Ts = mkTms q2 Ts := by unfold mkLwT; rw [HQ1.out, HQ2.out]
  refine ⟨by rw [HQ.out]; rfl, HT.out, a0, k0, a1, k1, a2, k2, s0, s1, m0, m1, t0, t1, ?_, z1, z2, z3, z4, z5, z6, z7, z8, z9, H1.out, ?_, ?_⟩
  · unfold lwL
    simp only [e1, e2, mkMds_len, mkTms_len]
    rfl
  · rw [e1, mkMds_len]; exact H2.out
  · rw [e2, mkTms_len]; exact H3.out

set_option maxRecDepth 20000 in
set_option maxHeartbeats 8000000 in
theorem heldLw_any (lo hi : Nat) (cs : List Value) (x : Sh) (Ms : List Md) (Ts : List Tm) (k : Int) (w : World) (h : LwOwn lo hi w cs (mkSh k x) (mkLwM k x Ms) (mkLwT k x Ms Ts)) (hn : LwFew x Ms Ts) (h0 : 0 ≤ k) (hk : k ≤ 1000000) :
    Calls Try.prog 14 #[.agg cs.toArray, .int .i64 k] w fun e w' => e = .returned (.int .i64 (endLw k x Ms Ts)) ∧ Below w.heap.size w w' := by
  obtain ⟨a0, k0, a1, k1, a2, k2, s0, s1, m0, m1, t0, t1, h1, z1, z2, z3, z4, z5, z6, z7, z8, z9, g1, g2, g3⟩ := h
  have l1 : (mkLwM k x Ms).length = Ms.length := mkMds_len _ _
  have l2 : (mkLwT k x Ms Ts).length = Ts.length := mkTms_len _ _
  have hc : cs = [.slice a0 1 k0, .slice a1 Ms.length k1, .slice a2 Ts.length k2] := by rw [h1]; unfold lwL; simp only [l1, l2]; rfl
  subst hc
  rw [l1] at g2
  rw [l2] at g3
  show Calls Try.prog 14 #[.agg #[.slice a0 1 k0, .slice a1 Ms.length k1, .slice a2 Ts.length k2], .int .i64 k] w _
  have hb1 := endSh_bd hn.f h0 hk
  have hb2 := posMd_le hn.m (Nat.le_refl Ms.length)
  have hb3 := hn.m.1
  have hb4 := posTm_le hn.t (Nat.le_refl Ts.length)
  have hb5 := hn.t.1
  have HN := hide hn
  have H1 := hide g1
  have H2 : Hid (MdsOwn m0 m1 w (.slice a1 Ms.length k1) (mkMds (endSh k x) Ms)) := g2
  have H3 : Hid (TmsOwn t0 t1 w (.slice a2 Ts.length k2) (mkTms (endSh k x + (posMd Ms Ms.length : Int)) Ts)) := g3
  have HQ : Hid (endLw k x Ms Ts = endSh k x + (posMd Ms Ms.length : Int) + (posTm Ts Ts.length : Int)) := rfl
  clear g1 g2 g3 hn h1 l1 l2
  go_enter Try.func14, Try.ntmps14
  go_wp2_with fail
  generalize hWa : w.alloc _ = Wa
  have HB : Hid (Below w.heap.size w Wa) := by unfold Hid; rw [← hWa]; exact one_al w _
  have FX : Hid (Box Wa w.heap.size #[.slice a0 1 k0, .slice a1 Ms.length k1, .slice a2 Ts.length k2]) := by unfold Hid; rw [← hWa]; exact Box.new _ _ _ _ rfl
  clear hWa
  refine (heldSh1_any s0 s1 _ x k _ (H1.out.below HB.out) HN.out.f h0 (by omega)).mono ?_
  rintro e w1 ⟨rfl, hb⟩
  replace FX := hide (FX.out.on hb)
  replace HB := hide (bt HB.out hb)
  clear hb
  generalize hq1 : endSh k x = q1 at *
  have n1 : decide (q1 < 0) = false := by simp; omega
  have gc := FX.out.cell
  go_wp2_with fail
  clear gc n1
  refine (heldMds_any m0 m1 _ Ms q1 _ (H2.out.below HB.out) HN.out.m (by omega) (by omega)).mono ?_
  rintro e w2 ⟨rfl, hb⟩
  replace FX := hide (FX.out.on hb)
  replace HB := hide (bt HB.out hb)
  clear hb
  generalize hq2 : q1 + (posMd Ms Ms.length : Int) = q2 at *
  have n2 : decide (q2 < 0) = false := by simp; omega
  have gc := FX.out.cell
  go_wp2_with fail
  clear gc n2
  refine (heldTms_any t0 t1 _ Ts q2 _ (H3.out.below HB.out) HN.out.t (by omega) (by omega)).mono ?_
  rintro e w3 ⟨rfl, hb⟩
  replace HB := hide (bt HB.out hb)
  clear hb
  have n3 : decide (q2 + (posTm Ts Ts.length : Int) < 0) = false := by simp; omega
  go_wp2
  go_ret
  exact ⟨by rw [HQ.out]; rfl, HB.out⟩
end Go.Proofs.Ytmaagbnjpdijnaa

