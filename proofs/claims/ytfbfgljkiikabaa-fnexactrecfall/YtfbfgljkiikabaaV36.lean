import Derived.Test.YtfbfgljkiikabaaV35
import Derived.Deep.MidRow
namespace Go.Proofs.Ytfbfgljkiikabaa
open Go.RowKit Go.Deep

theorem step_store_m {P : Program} {ops : Array Oper} {o : Oper} {a : Act} {w : World} {K : Act → World → Prop} {Q : Exit → Act → World → Prop} {E : Prop} (hgd : o.guard = none) (ty : TypeId) (x y : Operand) (ho : o.op = .store ty x y)
    (b of : Nat) (cells : Array Value) (hx : a.eval x = .pointer (some ⟨b, of, none⟩)) (hy : a.eval y = .agg cells) (ht : w.there b of cells.size) (hi : (P.info? ty).map (·.size) = some cells.size) (h1 : cells.all (·.oneCell') = true)
    (h : K (a.put o.dst undef) (w.setCells b of cells.toList)) : if Region.wanted o (yielded ops a.tmps) = true then Oper.wp P o a w K Q else E := by
  have hw : Region.wanted o (yielded ops a.tmps) = true := by simp [Region.wanted, hgd]
  rw [if_pos hw]
  exact wp_store_mid ty x y ho b of cells hx hy ht hi h1 h
structure H5 (β : Nat) (x0 x1 x3 x4 x5 : Value) (W : World) : Prop where
  c0 : W.cell? ⟨β, 0, none⟩ = some x0
  c1 : W.cell? ⟨β, 1, none⟩ = some x1
  c3 : W.cell? ⟨β, 3, none⟩ = some x3
  c4 : W.cell? ⟨β, 4, none⟩ = some x4
  c5 : W.cell? ⟨β, 5, none⟩ = some x5
theorem H5.below {β : Nat} {x0 x1 x3 x4 x5 : Value} {W W' : World} (h : H5 β x0 x1 x3 x4 x5 W) (hb : Below W.heap.size W W') (hl : β < W.heap.size) : H5 β x0 x1 x3 x4 x5 W' :=
  ⟨(hb.cell (p := ⟨β, 0, none⟩) hl).trans h.c0, (hb.cell (p := ⟨β, 1, none⟩) hl).trans h.c1, (hb.cell (p := ⟨β, 3, none⟩) hl).trans h.c3, (hb.cell (p := ⟨β, 4, none⟩) hl).trans h.c4, (hb.cell (p := ⟨β, 5, none⟩) hl).trans h.c5⟩
def riseUV (U : Rr) : Rr := { U with up := true }
def riseU (U : Rr) : Rr := if validR U then riseUV U else nwU 0 0 false
def fallUV (U : Rr) : Rr := ⟨U.nu, U.of, false, U.sf, U.sf, [], [], false, false, 0, [], [], [], 0⟩
def fallU (U : Rr) : Rr := if validR U then fallUV U else nwU 0 0 false
theorem rise_small {U : Rr} (h : RrSmall U) : RrSmall (riseU U) := by
  unfold riseU
  split
  · exact h
  · exact nw_small _ _ _
theorem fall_small {U : Rr} (h : RrSmall U) : RrSmall (fallU U) := by
  unfold fallU
  split
  · have h0 := h.1
    have hz := nw_small 0 0 false
    exact ⟨h0, h0, hz.2.2.1, hz.2.2.2.1, hz.2.2.2.2.1, hz.2.2.2.2.2.1, hz.2.2.2.2.2.2⟩
  · exact nw_small _ _ _
theorem rise_z {U : Rr} (h : RrZ U) : RrZ (riseUV U) := ⟨h.z0, h.z1, h.z2, h.z3, h.z5⟩

set_option maxRecDepth 20000 in
set_option maxHeartbeats 16000000 in
theorem specRise_any (cs : List Value) (U : Rr) (w : World) (h : RrC 0 w cs U) (hn : RrSmall U) :
    Calls Try.prog 15 #[.agg cs.toArray] w fun e w' => ∃ cs', e = .returned (.agg cs'.toArray) ∧ Below w.heap.size w w' ∧ RrC 0 w' cs' (riseU U) := by
  have HC := hide h
  have HN := hide hn
  have HZ := hide h.sizes
  have HS : Hid ((Try.prog.info? 40).map (·.size) = some cs.length) := by unfold Hid; rw [h.len]; exact sizeRr
  have HE : Hid (riseU U = if validR U then riseUV U else nwU 0 0 false) := rfl
  have HTN : Hid (∀ (X : World) (l : List Value), l.length = 18 → (X.alloc (.cells #[.int .i64 0, .int .i64 0, .bool false, .int .i64 0, .int .i64 0, .slice none 0 0, .int .i64 0, .int .i64 0, .slice none 0 0, .slice none 0 0, .slice none 0 0, .bool false, .bool false, .int .i64 0, .slice none 0 0, .slice none 0 0, .slice none 0 0, .int .i64 0] 40)).there X.heap.size 0 l.toArray.size) := fun X l h => by rw [show l.toArray.size = 18 from h]; exact there_made _ _ _ _ rfl
  have HBX : Hid (∀ (X : World) (l : List Value), l.length = 18 → Box ((X.alloc (.cells #[.int .i64 0, .int .i64 0, .bool false, .int .i64 0, .int .i64 0, .slice none 0 0, .int .i64 0, .int .i64 0, .slice none 0 0, .slice none 0 0, .slice none 0 0, .bool false, .bool false, .int .i64 0, .slice none 0 0, .slice none 0 0, .slice none 0 0, .int .i64 0] 40)).setCells X.heap.size 0 l.toArray.toList) X.heap.size l.toArray) := fun X l h => (Box.new _ _ _ _ rfl).full (by rw [show l.toArray.size = 18 from h]; rfl)
  clear h hn
  have HR0 : Hid (World.rangeAt ((w.alloc (.cells cs.toArray 40)).alloc (.cells #[.int .i64 0, .int .i64 0, .bool false, .int .i64 0, .int .i64 0, .slice none 0 0, .int .i64 0, .int .i64 0, .slice none 0 0, .slice none 0 0, .slice none 0 0, .bool false, .bool false, .int .i64 0, .slice none 0 0, .slice none 0 0, .slice none 0 0, .int .i64 0] 40)) w.heap.size 0 cs) := ((Box.new w _ _ _ rfl).on (one_al _ _)).range rfl
  go_enter Try.func15, Try.ntmps15
  go_wp2_with (with_reducible refine wpList_load_mid (by with_reducible rfl) 40 (.tmp 1) (by with_reducible rfl) w.heap.size 0 (by with_unfolding_all rfl) cs _ HR0.out Try.underlying40 (by with_unfolding_all rfl) HS.out ?_)
  obtain ⟨wz, hwz, FB, RB, HB⟩ : ∃ wz, wz = (w.alloc (.cells cs.toArray 40)).alloc (.cells #[.int .i64 0, .int .i64 0, .bool false, .int .i64 0, .int .i64 0, .slice none 0 0, .int .i64 0, .int .i64 0, .slice none 0 0, .slice none 0 0, .slice none 0 0, .bool false, .bool false, .int .i64 0, .slice none 0 0, .slice none 0 0, .slice none 0 0, .int .i64 0] 40) ∧ Hid (Box wz w.heap.size cs.toArray) ∧ Hid (Box wz (w.heap.size + 1) #[.int .i64 0, .int .i64 0, .bool false, .int .i64 0, .int .i64 0, .slice none 0 0, .int .i64 0, .int .i64 0, .slice none 0 0, .slice none 0 0, .slice none 0 0, .bool false, .bool false, .int .i64 0, .slice none 0 0, .slice none 0 0, .slice none 0 0, .int .i64 0]) ∧ Hid (Below w.heap.size w wz) :=
    ⟨_, rfl, (Box.new w _ _ _ rfl).on (one_al _ _), Box.new _ _ _ _ (by simp), (one_al _ _).trans ((one_al _ _).mono (by simp))⟩
  rw [← hwz]
  clear hwz HR0
  refine (specValidR_any 0 cs U _ (HC.out.below HB.out) HN.out).mono ?_
  rintro e w1 ⟨rfl, hb⟩
  replace HB : Hid (Below w.heap.size w w1) := bt HB.out hb
  replace FB := hide (FB.out.on hb)
  replace RB := hide (RB.out.on hb)
  clear hb
  have hsz : w.heap.size + 2 ≤ w1.heap.size := by have := RB.out.lt; omega
  cases qv : validR U with
  | false =>
    have HV : Hid (riseU U = nwU 0 0 false) := by unfold Hid; rw [HE.out, qv]; rfl
    obtain ⟨zl, hzl⟩ : ∃ zl, zl = nwL 0 0 false := ⟨_, rfl⟩
    have hz18 : zl.length = 18 := by rw [hzl]; rfl
    have HON : Hid (zl.toArray.all (·.oneCell') = true) := by unfold Hid; rw [hzl]; exact nwL_one _ _ _
    have HZL := hide hzl
    have hzb : ∀ u, Sem.run Try.prog (zeroValue 40) u = .ok (.agg zl.toArray) u := by rw [hzl]; intro u; kernel_rfl
    clear hzl
    have HTH : Hid (World.there w1 (w.heap.size + 1) 0 zl.toArray.size) := by unfold Hid; rw [show zl.toArray.size = 18 from hz18]; exact RB.out.there rfl
    go_wp2_with (first
      | (with_reducible refine wpList_store_mid (by with_reducible rfl) 40 (.tmp 2) (.tmp 7) (by with_reducible rfl) (w.heap.size + 1) 0 zl.toArray (by with_unfolding_all rfl) (by with_unfolding_all rfl) HTH.out (szN hz18) HON.out ?_; refine Hid.out ?_))
    generalize hW : World.setCells _ _ _ _ = W9
    have FR9 : Hid (Box W9 (w.heap.size + 1) zl.toArray) := by unfold Hid; rw [← hW]; exact RB.out.full (by rw [show zl.toArray.size = 18 from hz18]; rfl)
    have TT : Hid (Touch (w.heap.size + 1) (w.heap.size + 2) w1 W9) := by unfold Hid; rw [← hW]; exact Touch.sets ⟨by omega, by omega⟩ _ _ _
    have HB9 : Hid (Below w.heap.size w W9) := HB.out.trans ((TT.out.under (by have := RB.out.lt; omega)).mono (by omega))
    clear hW
    refine hide ?_
    go_wp2
    exact bodyPost_ret (v := .agg zl.toArray) (res_rr (p := 2) (ty := 40) Try.results15 _ _ (w.heap.size + 1) 0 zl _ rfl (FR9.out.range rfl) Try.underlying40 rfl (by rw [hz18]; exact sizeRr)) rfl ⟨zl, rfl, HB9.out, by rw [HV.out, HZL.out]; exact nw_c _ _ _ _⟩
  | true =>
  have HV : Hid (riseU U = riseUV U) := by unfold Hid; rw [HE.out, qv]; rfl
  have HRA := hide (FB.out.range (l := cs) rfl)
  go_wp2_with (with_reducible refine wpList_load_mid (by with_reducible rfl) 40 (.tmp 1) (by with_reducible rfl) w.heap.size 0 (by with_unfolding_all rfl) cs _ HRA.out Try.underlying40 (by with_unfolding_all rfl) HS.out ?_)
  clear HRA
  refine (copyR_any 0 cs U _ (HC.out.below HB.out) HN.out).mono ?_
  rintro e w2 ⟨b0, m0, b1, m1, b2, m2, b3, m3, b4, m4, b5, m5, b6, m6, c, rfl, hb, hcp⟩
  have hs2 : w1.heap.size ≤ w2.heap.size := hb.size
  replace HB : Hid (Below w.heap.size w w2) := bt HB.out hb
  replace RB := hide (RB.out.on hb)
  have HAT := hide (hcp.at HZ.out)
  clear hb hcp
  obtain ⟨yl, hyl⟩ : ∃ yl, yl = rrL U b0 m0 b1 m1 b2 m2 b3 m3 b4 m4 b5 m5 b6 m6 := ⟨_, rfl⟩
  rw [← hyl]
  have hy18 : yl.length = 18 := by rw [hyl]; rfl
  have HON : Hid (yl.toArray.all (·.oneCell') = true) := by unfold Hid; rw [hyl]; exact rrL_one ..
  have HYL := hide hyl
  clear hyl
  go_wp2_with (with_reducible refine wpList_store_mid (by with_reducible rfl) 40 (.tmp 3) (.tmp 9) (by with_reducible rfl) w2.heap.size 0 yl.toArray (by with_unfolding_all rfl) (by with_unfolding_all rfl) (HTN.out _ _ hy18) (szN hy18) HON.out ?_; refine Hid.out ?_)
  generalize hW : World.setCells _ _ _ _ = w3
  have NB : Hid (Box w3 w2.heap.size yl.toArray) := by unfold Hid; rw [← hW]; exact HBX.out _ _ hy18
  have hb : Below w2.heap.size w2 w3 := by rw [← hW]; exact Below.sets (Nat.le_refl _) _ _ (one_al _ _)
  clear hW
  have hs3 : w2.heap.size < w3.heap.size := NB.out.lt
  replace HB : Hid (Below w.heap.size w w3) := bt HB.out hb
  replace RB := hide (RB.out.on hb)
  have H23 := hide hb
  clear hb
  have g2 : w3.cell? ⟨w2.heap.size, 2, none⟩ = some (.bool U.up) := by rw [NB.out.cell 2, HYL.out]; rfl
  have gf := NB.out.free
  obtain ⟨zl, hzl⟩ : ∃ zl, zl = rrL (riseUV U) b0 m0 b1 m1 b2 m2 b3 m3 b4 m4 b5 m5 b6 m6 := ⟨_, rfl⟩
  obtain ⟨w4, hw4⟩ : ∃ w4, w4 = w3.setCell ⟨w2.heap.size, 2, none⟩ (.bool true) := ⟨_, rfl⟩
  have NB4 : Hid (Box w4 w2.heap.size zl.toArray) := by unfold Hid; rw [hw4, hzl]; have hx := NB.out; rw [HYL.out] at hx; exact hx.set (k := 2) (.bool true) (by show 2 < 18; omega)
  have hz18 : zl.length = 18 := by rw [hzl]; rfl
  have HONz : Hid (zl.toArray.all (·.oneCell') = true) := by unfold Hid; rw [hzl]; exact rrL_one ..
  have HZL := hide hzl
  clear hzl
  refine hide ?_
  go_upto_region 5 with fail
  clear g2 gf
  rw [← hw4]
  have hb4 : Below w2.heap.size w3 w4 := by rw [hw4]; exact (Below.refl _ _).setCell (by simp only []; omega) _
  replace RB := hide (RB.out.below hb4 (by omega))
  replace HB : Hid (Below w.heap.size w w4) := HB.out.trans (hb4.mono (by omega))
  have H24 : Hid (Below w2.heap.size w2 w4) := H23.out.trans hb4
  clear hb4 hw4
  have HRA := hide (NB4.out.range (l := zl) rfl)
  have HSz : Hid ((Try.prog.info? 40).map (·.size) = some zl.length) := by unfold Hid; rw [hz18]; exact sizeRr
  have HTH : Hid (World.there w4 (w.heap.size + 1) 0 zl.toArray.size) := by unfold Hid; rw [show zl.toArray.size = 18 from hz18]; exact RB.out.there rfl
  go_wp2_with (first
    | (with_reducible refine wpList_load_mid (by with_reducible rfl) 40 (.tmp 3) (by with_reducible rfl) w2.heap.size 0 (by with_unfolding_all rfl) zl _ HRA.out Try.underlying40 (by with_unfolding_all rfl) HSz.out ?_)
    | (with_reducible refine wpList_store_mid (by with_reducible rfl) 40 (.tmp 2) (.tmp 11) (by with_reducible rfl) (w.heap.size + 1) 0 zl.toArray (by with_unfolding_all rfl) (by with_unfolding_all rfl) HTH.out (szN hz18) HONz.out ?_; refine Hid.out ?_))
  generalize hW : World.setCells _ _ _ _ = W9
  have FR9 : Hid (Box W9 (w.heap.size + 1) zl.toArray) := by unfold Hid; rw [← hW]; exact RB.out.full (by rw [show zl.toArray.size = 18 from hz18]; rfl)
  have TT : Hid (Touch (w.heap.size + 1) (w.heap.size + 2) w4 W9) := by unfold Hid; rw [← hW]; exact Touch.sets ⟨by omega, by omega⟩ _ _ _
  have HB9 : Hid (Below w.heap.size w W9) := HB.out.trans ((TT.out.under (by have := RB.out.lt; omega)).mono (by omega))
  clear hW
  refine hide ?_
  go_wp2
  exact bodyPost_ret (v := .agg zl.toArray) (res_rr (p := 2) (ty := 40) Try.results15 _ _ (w.heap.size + 1) 0 zl _ rfl (FR9.out.range rfl) Try.underlying40 rfl (by rw [hz18]; exact sizeRr)) rfl ⟨zl, rfl, HB9.out, by
      rw [HV.out, HZL.out]
      have hat := (RrAt.touchUp (HAT.out.below H24.out) TT.out (by omega)).mono (Nat.zero_le _)
      exact ⟨b0, m0, b1, m1, b2, m2, b3, m3, b4, m4, b5, m5, b6, m6, rfl, ⟨hat.l0, hat.l1, hat.l2, hat.l3, hat.l4, hat.l5, hat.l6⟩⟩⟩

set_option maxRecDepth 20000 in
set_option maxHeartbeats 16000000 in
theorem specFall_any (cs : List Value) (U : Rr) (w : World) (h : RrC 0 w cs U) (hn : RrSmall U) :
    Calls Try.prog 9 #[.agg cs.toArray] w fun e w' => ∃ cs', e = .returned (.agg cs'.toArray) ∧ Below w.heap.size w w' ∧ RrC 0 w' cs' (fallU U) := by
  have HC := hide h
  have HN := hide hn
  have HZ := hide h.sizes
  have HS : Hid ((Try.prog.info? 40).map (·.size) = some cs.length) := by unfold Hid; rw [h.len]; exact sizeRr
  have HE : Hid (fallU U = if validR U then fallUV U else nwU 0 0 false) := rfl
  have HTN : Hid (∀ (X : World) (l : List Value), l.length = 18 → (X.alloc (.cells #[.int .i64 0, .int .i64 0, .bool false, .int .i64 0, .int .i64 0, .slice none 0 0, .int .i64 0, .int .i64 0, .slice none 0 0, .slice none 0 0, .slice none 0 0, .bool false, .bool false, .int .i64 0, .slice none 0 0, .slice none 0 0, .slice none 0 0, .int .i64 0] 40)).there X.heap.size 0 l.toArray.size) := fun X l h => by rw [show l.toArray.size = 18 from h]; exact there_made _ _ _ _ rfl
  have HBX : Hid (∀ (X : World) (l : List Value), l.length = 18 → Box ((X.alloc (.cells #[.int .i64 0, .int .i64 0, .bool false, .int .i64 0, .int .i64 0, .slice none 0 0, .int .i64 0, .int .i64 0, .slice none 0 0, .slice none 0 0, .slice none 0 0, .bool false, .bool false, .int .i64 0, .slice none 0 0, .slice none 0 0, .slice none 0 0, .int .i64 0] 40)).setCells X.heap.size 0 l.toArray.toList) X.heap.size l.toArray) := fun X l h => (Box.new _ _ _ _ rfl).full (by rw [show l.toArray.size = 18 from h]; rfl)
  clear h hn
  have HR0 : Hid (World.rangeAt ((w.alloc (.cells cs.toArray 40)).alloc (.cells #[.int .i64 0, .int .i64 0, .bool false, .int .i64 0, .int .i64 0, .slice none 0 0, .int .i64 0, .int .i64 0, .slice none 0 0, .slice none 0 0, .slice none 0 0, .bool false, .bool false, .int .i64 0, .slice none 0 0, .slice none 0 0, .slice none 0 0, .int .i64 0] 40)) w.heap.size 0 cs) := ((Box.new w _ _ _ rfl).on (one_al _ _)).range rfl
  go_enter Try.func9, Try.ntmps9
  go_wp2_with (with_reducible refine wpList_load_mid (by with_reducible rfl) 40 (.tmp 1) (by with_reducible rfl) w.heap.size 0 (by with_unfolding_all rfl) cs _ HR0.out Try.underlying40 (by with_unfolding_all rfl) HS.out ?_)
  obtain ⟨wz, hwz, FB, RB, HB⟩ : ∃ wz, wz = (w.alloc (.cells cs.toArray 40)).alloc (.cells #[.int .i64 0, .int .i64 0, .bool false, .int .i64 0, .int .i64 0, .slice none 0 0, .int .i64 0, .int .i64 0, .slice none 0 0, .slice none 0 0, .slice none 0 0, .bool false, .bool false, .int .i64 0, .slice none 0 0, .slice none 0 0, .slice none 0 0, .int .i64 0] 40) ∧ Hid (Box wz w.heap.size cs.toArray) ∧ Hid (Box wz (w.heap.size + 1) #[.int .i64 0, .int .i64 0, .bool false, .int .i64 0, .int .i64 0, .slice none 0 0, .int .i64 0, .int .i64 0, .slice none 0 0, .slice none 0 0, .slice none 0 0, .bool false, .bool false, .int .i64 0, .slice none 0 0, .slice none 0 0, .slice none 0 0, .int .i64 0]) ∧ Hid (Below w.heap.size w wz) :=
    ⟨_, rfl, (Box.new w _ _ _ rfl).on (one_al _ _), Box.new _ _ _ _ (by simp), (one_al _ _).trans ((one_al _ _).mono (by simp))⟩
  rw [← hwz]
  clear hwz HR0
  refine (specValidR_any 0 cs U _ (HC.out.below HB.out) HN.out).mono ?_
  rintro e w1 ⟨rfl, hb⟩
  replace HB : Hid (Below w.heap.size w w1) := bt HB.out hb
  replace FB := hide (FB.out.on hb)
  replace RB := hide (RB.out.on hb)
  clear hb
  have hsz : w.heap.size + 2 ≤ w1.heap.size := by have := RB.out.lt; omega
  cases qv : validR U with
  | false =>
    have HV : Hid (fallU U = nwU 0 0 false) := by unfold Hid; rw [HE.out, qv]; rfl
    obtain ⟨zl, hzl⟩ : ∃ zl, zl = nwL 0 0 false := ⟨_, rfl⟩
    have hz18 : zl.length = 18 := by rw [hzl]; rfl
    have HON : Hid (zl.toArray.all (·.oneCell') = true) := by unfold Hid; rw [hzl]; exact nwL_one _ _ _
    have HZL := hide hzl
    have hzb : ∀ u, Sem.run Try.prog (zeroValue 40) u = .ok (.agg zl.toArray) u := by rw [hzl]; intro u; kernel_rfl
    clear hzl
    have HTH : Hid (World.there w1 (w.heap.size + 1) 0 zl.toArray.size) := by unfold Hid; rw [show zl.toArray.size = 18 from hz18]; exact RB.out.there rfl
    go_wp2_with (first
      | (with_reducible refine wpList_store_mid (by with_reducible rfl) 40 (.tmp 2) (.tmp 6) (by with_reducible rfl) (w.heap.size + 1) 0 zl.toArray (by with_unfolding_all rfl) (by with_unfolding_all rfl) HTH.out (szN hz18) HON.out ?_; refine Hid.out ?_))
    generalize hW : World.setCells _ _ _ _ = W9
    have FR9 : Hid (Box W9 (w.heap.size + 1) zl.toArray) := by unfold Hid; rw [← hW]; exact RB.out.full (by rw [show zl.toArray.size = 18 from hz18]; rfl)
    have TT : Hid (Touch (w.heap.size + 1) (w.heap.size + 2) w1 W9) := by unfold Hid; rw [← hW]; exact Touch.sets ⟨by omega, by omega⟩ _ _ _
    have HB9 : Hid (Below w.heap.size w W9) := HB.out.trans ((TT.out.under (by have := RB.out.lt; omega)).mono (by omega))
    clear hW
    refine hide ?_
    go_wp2
    exact bodyPost_ret (v := .agg zl.toArray) (res_rr (p := 2) (ty := 40) Try.results9 _ _ (w.heap.size + 1) 0 zl _ rfl (FR9.out.range rfl) Try.underlying40 rfl (by rw [hz18]; exact sizeRr)) rfl ⟨zl, rfl, HB9.out, by rw [HV.out, HZL.out]; exact nw_c _ _ _ _⟩
  | true =>
  have HV : Hid (fallU U = fallUV U) := by unfold Hid; rw [HE.out, qv]; rfl
  obtain ⟨a0, k0, a1, k1, a2, k2, a3, k3, a4, k4, a5, k5, a6, k6, hcs, hat⟩ := HC.out
  have HAT := hide hat
  have hq0 := HN.out.1.1
  clear hat
  have g0 : w1.cell? ⟨w.heap.size, 0, none⟩ = some (.int .i64 U.nu) := by rw [FB.out.cell 0, hcs]; rfl
  have g1 : w1.cell? ⟨w.heap.size, 1, none⟩ = some (.int .i64 U.of) := by rw [FB.out.cell 1, hcs]; rfl
  have g3 : w1.cell? ⟨w.heap.size, 3, none⟩ = some (.int .i64 U.sf.pr) := by rw [FB.out.cell 3, hcs]; rfl
  have g4 : w1.cell? ⟨w.heap.size, 4, none⟩ = some (.int .i64 U.sf.kn) := by rw [FB.out.cell 4, hcs]; rfl
  have g5 : w1.cell? ⟨w.heap.size, 5, none⟩ = some (.slice a0 U.sf.sl.length k0) := by rw [FB.out.cell 5, hcs]; rfl
  have HCS := hide hcs
  clear hcs
  have HRD0 : Hid (RssAt 0 w1 (.slice a0 U.sf.sl.length k0) U.sf.sl) := (HAT.out.below HB.out).l0
  have hxl : w.heap.size < w1.heap.size := by omega
  go_upto_region 3 with fail
  refine Code.wp_mono NoPanic.imp ?_
  refine wp_region_B (S := H5 w.heap.size (.int .i64 U.nu) (.int .i64 U.of) (.int .i64 U.sf.pr) (.int .i64 U.sf.kn) (.slice a0 U.sf.sl.length k0)) [11] (by kernel_rfl) ⟨g0, g1, g3, g4, g5⟩ (fun hHeld => ?_)
  refine wpAnyB_take [1, 10, 11] (i := 0) (v := .pointer (some ⟨w.heap.size, 0, none⟩)) rfl (by kernel_rfl) (by kernel_rfl) (by kernel_rfl) (by kernel_rfl) (fun _ _ _ h => h) (Or.inl ⟨by rfl, fun W hW => by obtain ⟨h1, h2, h3, h4, h5⟩ := hW; go_simp⟩) hHeld ?_
  try simp only [Act.put, List.getElem_toArray, List.getElem_cons_zero, List.setIfInBounds_toArray, List.set_cons_zero, List.set_cons_succ]
  refine wpAnyB_take [10, 11] (i := 1) (v := .int .i64 U.nu) rfl (by kernel_rfl) (by kernel_rfl) (by kernel_rfl) (by kernel_rfl) (fun _ _ _ h => h) (Or.inl ⟨by rfl, fun W hW => by obtain ⟨h1, h2, h3, h4, h5⟩ := hW; go_simp⟩) hHeld ?_
  try simp only [Act.put, List.getElem_toArray, List.getElem_cons_succ, List.getElem_cons_zero, List.setIfInBounds_toArray, List.set_cons_zero, List.set_cons_succ]
  refine wpAnyB_take [3, 10, 11] (i := 2) (v := .pointer (some ⟨w.heap.size, 1, none⟩)) rfl (by kernel_rfl) (by kernel_rfl) (by kernel_rfl) (by kernel_rfl) (fun _ _ _ h => h) (Or.inl ⟨by rfl, fun W hW => by obtain ⟨h1, h2, h3, h4, h5⟩ := hW; go_simp⟩) hHeld ?_
  try simp only [Act.put, List.getElem_toArray, List.getElem_cons_succ, List.getElem_cons_zero, List.setIfInBounds_toArray, List.set_cons_zero, List.set_cons_succ]
  refine wpAnyB_take [10, 11] (i := 3) (v := .int .i64 U.of) rfl (by kernel_rfl) (by kernel_rfl) (by kernel_rfl) (by kernel_rfl) (fun _ _ _ h => h) (Or.inl ⟨by rfl, fun W hW => by obtain ⟨h1, h2, h3, h4, h5⟩ := hW; go_simp⟩) hHeld ?_
  try simp only [Act.put, List.getElem_toArray, List.getElem_cons_succ, List.getElem_cons_zero, List.setIfInBounds_toArray, List.set_cons_zero, List.set_cons_succ]
  refine wpAnyB_take [5, 6, 9, 10, 11] (i := 4) (v := .pointer (some ⟨w.heap.size, 3, none⟩)) rfl (by kernel_rfl) (by kernel_rfl) (by kernel_rfl) (by kernel_rfl) (fun _ _ _ h => h) (Or.inl ⟨by rfl, fun W hW => by obtain ⟨h1, h2, h3, h4, h5⟩ := hW; go_simp⟩) hHeld ?_
  try simp only [Act.put, List.getElem_toArray, List.getElem_cons_succ, List.getElem_cons_zero, List.setIfInBounds_toArray, List.set_cons_zero, List.set_cons_succ]
  refine wpAnyB_take [6, 9, 10, 11] (i := 5) (v := .agg #[.int .i64 U.sf.pr, .int .i64 U.sf.kn, .slice a0 U.sf.sl.length k0]) rfl (by kernel_rfl) (by kernel_rfl) (by kernel_rfl) (by kernel_rfl) (fun _ _ _ h => h) (Or.inl ⟨by rfl, fun W hW => by obtain ⟨h1, h2, h3, h4, h5⟩ := hW; go_simp⟩) hHeld ?_
  try simp only [Act.put, List.getElem_toArray, List.getElem_cons_succ, List.getElem_cons_zero, List.setIfInBounds_toArray, List.set_cons_zero, List.set_cons_succ]
  refine wpAnyB_take [8, 9, 10, 11] (i := 7) (v := .pointer (some ⟨w.heap.size, 3, none⟩)) rfl (by kernel_rfl) (by kernel_rfl) (by kernel_rfl) (by kernel_rfl) (fun _ _ _ h => h) (Or.inl ⟨by rfl, fun W hW => by obtain ⟨h1, h2, h3, h4, h5⟩ := hW; go_simp⟩) hHeld ?_
  try simp only [Act.put, List.getElem_toArray, List.getElem_cons_succ, List.getElem_cons_zero, List.setIfInBounds_toArray, List.set_cons_zero, List.set_cons_succ]
  refine wpAnyB_take [9, 10, 11] (i := 8) (v := .agg #[.int .i64 U.sf.pr, .int .i64 U.sf.kn, .slice a0 U.sf.sl.length k0]) rfl (by kernel_rfl) (by kernel_rfl) (by kernel_rfl) (by kernel_rfl) (fun _ _ _ h => h) (Or.inl ⟨by rfl, fun W hW => by obtain ⟨h1, h2, h3, h4, h5⟩ := hW; go_simp⟩) hHeld ?_
  try simp only [Act.put, List.getElem_toArray, List.getElem_cons_succ, List.getElem_cons_zero, List.setIfInBounds_toArray, List.set_cons_zero, List.set_cons_succ]
  refine wpAnyB_one (i := 6) (by kernel_rfl) rfl (fun K hK => ?_)
  go_simp
  refine (diskF_any 0 U.sf _ _ _ (HRD0.out.below ((Below.refl _ _).drew)) hq0).mono ?_
  rintro e x0 ⟨b0, m0, rfl, hb, hs⟩
  have hHn := hHeld.below hb (by exact hxl)
  replace hb : Below w1.heap.size w1 x0 := ((Below.refl _ _).drew).trans hb
  have hx0 : w1.heap.size ≤ x0.heap.size := hb.size
  replace RB := hide (RB.out.on hb)
  replace HB := hide (bt HB.out hb)
  replace HRD0 := hide (HRD0.out.below hb)
  have N0 : Hid (FRow rsL 2 x0 w1.heap.size x0.heap.size (.slice b0 U.sf.sl.length m0) U.sf.sl) := hs
  have hxl : w.heap.size < x0.heap.size := by omega
  clear hb hs
  refine hK.out _ _ (fun _ => hHn) (fun hHx => ?_)
  clear hHeld hHn
  have hHeld := hHx (by decide)
  clear hK K hHx
  try simp only [Act.put, List.getElem_toArray, List.getElem_cons_succ, List.getElem_cons_zero, List.setIfInBounds_toArray, List.set_cons_zero, List.set_cons_succ]
  refine wpAnyB_one (i := 9) (by kernel_rfl) rfl (fun K hK => ?_)
  go_simp
  refine (diskF_any 0 U.sf _ _ _ (HRD0.out) hq0).mono ?_
  rintro e x1 ⟨b1, m1, rfl, hb, hs⟩
  have hHn := hHeld.below hb (by exact hxl)
  replace hb : Below x0.heap.size x0 x1 := hb
  have hx1 : x0.heap.size ≤ x1.heap.size := hb.size
  replace RB := hide (RB.out.on hb)
  replace HB := hide (bt HB.out hb)
  replace HRD0 := hide (HRD0.out.below hb)
  replace N0 := hide (N0.out.below hb)
  have N1 : Hid (FRow rsL 2 x1 x0.heap.size x1.heap.size (.slice b1 U.sf.sl.length m1) U.sf.sl) := hs
  have hxl : w.heap.size < x1.heap.size := by omega
  clear hb hs
  refine hK.out _ _ (fun _ => hHn) (fun hHx => ?_)
  clear hHeld hHn
  have hHeld := hHx (by decide)
  clear hK K hHx
  try simp only [Act.put, List.getElem_toArray, List.getElem_cons_succ, List.getElem_cons_zero, List.setIfInBounds_toArray, List.set_cons_zero, List.set_cons_succ]
  refine wpAnyB_take [11] (i := 10) (v := .agg #[.int .i64 U.nu, .int .i64 U.of, .bool false, .int .i64 U.sf.pr, .int .i64 U.sf.kn, .slice b0 U.sf.sl.length m0, .int .i64 U.sf.pr, .int .i64 U.sf.kn, .slice b1 U.sf.sl.length m1, .slice none 0 0, .slice none 0 0, .bool false, .bool false, .int .i64 0, .slice none 0 0, .slice none 0 0, .slice none 0 0, .int .i64 0]) rfl (by kernel_rfl) (by kernel_rfl) (by kernel_rfl) (by kernel_rfl) (fun _ _ _ h => h) (Or.inl ⟨by rfl, fun W hW => by obtain ⟨h1, h2, h3, h4, h5⟩ := hW; go_simp⟩) hHeld ?_
  try simp only [Act.put, List.getElem_toArray, List.getElem_cons_succ, List.getElem_cons_zero, List.setIfInBounds_toArray, List.set_cons_zero, List.set_cons_succ]
  have HTH : Hid (World.there x1 (w.heap.size + 1) 0 (rrL (fallUV U) b0 m0 b1 m1 none 0 none 0 none 0 none 0 none 0).toArray.size) := RB.out.there rfl
  have HON : Hid ((rrL (fallUV U) b0 m0 b1 m1 none 0 none 0 none 0 none 0 none 0).toArray.all (·.oneCell') = true) := rrL_one ..
  refine wpAnyB_one (i := 11) (by kernel_rfl) rfl (fun K hK => ?_)
  refine step_store_m rfl 40 (.tmp 2) (.tmp 17) rfl (w.heap.size + 1) 0 (rrL (fallUV U) b0 m0 b1 m1 none 0 none 0 none 0 none 0 none 0).toArray rfl rfl HTH.out (szN rfl) HON.out ?_
  refine hK.out _ _ (fun h => absurd (by decide) h) (fun _ => ?_)
  clear hK
  try simp only [Act.put, List.getElem_toArray, List.getElem_cons_succ, List.getElem_cons_zero]
  refine wpAnyB_done (by kernel_rfl) ?_ _
  refine NoPanic.normal ?_
  generalize hW9 : World.setCells _ _ _ _ = W9
  have HSz : Hid ((Try.prog.info? 40).map (·.size) = some (rrL (fallUV U) b0 m0 b1 m1 none 0 none 0 none 0 none 0 none 0).length) := by unfold Hid; exact sizeRr
  have FR9 : Hid (Box W9 (w.heap.size + 1) (rrL (fallUV U) b0 m0 b1 m1 none 0 none 0 none 0 none 0 none 0).toArray) := by unfold Hid; rw [← hW9]; exact RB.out.full rfl
  have TT : Hid (Touch (w.heap.size + 1) (w.heap.size + 2) x1 W9) := by unfold Hid; rw [← hW9]; exact Touch.sets ⟨by omega, by omega⟩ _ _ _
  have HB9 : Hid (Below w.heap.size w W9) := HB.out.trans ((TT.out.under (by have := RB.out.lt; omega)).mono (by omega))
  clear hW9
  go_wp2
  exact bodyPost_ret (v := .agg (rrL (fallUV U) b0 m0 b1 m1 none 0 none 0 none 0 none 0 none 0).toArray) (res_rr (p := 2) (ty := 40) Try.results9 _ _ (w.heap.size + 1) 0 (rrL (fallUV U) b0 m0 b1 m1 none 0 none 0 none 0 none 0 none 0) _ rfl (FR9.out.range rfl) Try.underlying40 rfl HSz.out) rfl ⟨(rrL (fallUV U) b0 m0 b1 m1 none 0 none 0 none 0 none 0 none 0), rfl, HB9.out, by
    rw [HV.out]
    have n0 := (RssAt.tup (N0.out.rss HZ.out.z0).at TT.out (by omega)).mono (Nat.zero_le _)
    have n1 := (RssAt.tup (N1.out.rss HZ.out.z0).at TT.out (by omega)).mono (Nat.zero_le _)
    exact ⟨b0, m0, b1, m1, none, 0, none, 0, none, 0, none, 0, none, 0, rfl, ⟨n0, n1, Or.inl ⟨none, 0, rfl, rfl⟩, Or.inl ⟨none, 0, rfl, rfl⟩, Or.inl ⟨none, 0, rfl, rfl⟩, Or.inl ⟨none, 0, rfl, rfl⟩, Or.inl ⟨none, 0, rfl, rfl⟩⟩⟩⟩
end Go.Proofs.Ytfbfgljkiikabaa
