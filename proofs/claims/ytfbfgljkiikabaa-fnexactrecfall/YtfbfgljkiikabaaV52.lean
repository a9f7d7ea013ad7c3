import Derived.Test.YtfbfgljkiikabaaV39
import Derived.Test.YtfbfgljkiikabaaV51
namespace Go.Proofs.Ytfbfgljkiikabaa
open Go.RowKit Go.Deep

theorem Box.midL {w : World} {β : Nat} {cs : Array Value} (pre mid post vs : List Value) (h : Box w β cs) (hc : cs = (pre ++ (mid ++ post)).toArray) (hm : mid.length = vs.length) : Box (w.setCells β pre.length vs) β (pre ++ (vs ++ post)).toArray := by
  subst hc
  refine ⟨by rw [size_sets]; exact h.lt, fun i => ?_, fun i => by rw [World.frozen?_setCells]; exact h.free i⟩
  have hcell := h.cell i
  rw [List.getElem?_toArray] at hcell
  by_cases h1 : i < pre.length
  · rw [World.cell?_setCells_out β vs pre.length w ⟨β, i, none⟩ (fun _ _ => Or.inl h1), hcell, List.getElem?_toArray, List.getElem?_append_left h1, List.getElem?_append_left h1]
  · by_cases h2 : i < pre.length + vs.length
    · have hin := World.cell?_setCells_in β vs pre.length w (fun j hj => by have ht := (h.there rfl (pre.length + j) (by simp; omega)).1; rw [Nat.zero_add] at ht; exact ht) (i - pre.length) (by omega)
      rw [show pre.length + (i - pre.length) = i by omega] at hin
      rw [hin, List.getElem?_toArray, List.getElem?_append_right (by omega), List.getElem?_append_left (by omega)]
      simp
    · rw [World.cell?_setCells_out β vs pre.length w ⟨β, i, none⟩ (fun _ _ => Or.inr (by simp; omega)), hcell, List.getElem?_toArray, List.getElem?_append_right (by omega), List.getElem?_append_right (by omega), List.getElem?_append_right (by omega), List.getElem?_append_right (by omega), hm]
def fgL (D : Rd) (b : Option Addr) (m : Nat) : List Value := [.bool false, .int .i64 D.pr, .int .i64 D.kn, .slice b D.sl.length m, .slice none 0 0, .slice none 0 0, .bool false, .bool false, .int .i64 0, .slice none 0 0, .slice none 0 0, .slice none 0 0, .int .i64 0]
theorem size_fg : (Try.prog.info? 64).map (·.size) = some 13 := by kernel_rfl
set_option maxRecDepth 20000 in
set_option maxHeartbeats 16000000 in
theorem implRise_any (cs : List Value) (U : Rr) (w : World) (h : RrC 0 w cs U) (hn : RrSmall U) :
    Calls Try.prog 16 #[.agg cs.toArray] w fun e w' => ∃ cs', e = .returned (.agg cs'.toArray) ∧ Below w.heap.size w w' ∧ RrOwn w.heap.size w'.heap.size w' cs' (riseU U) := by
  have HC := hide h
  have HN := hide hn
  have HZ := hide h.sizes
  have HS : Hid ((Try.prog.info? 40).map (·.size) = some cs.length) := by unfold Hid; rw [h.len]; exact sizeRr
  have HE : Hid (riseU U = if validR U then riseUV U else nwU 0 0 false) := rfl
  have HTN : Hid (∀ (X : World) (l : List Value), l.length = 18 → (X.alloc (.cells #[.int .i64 0, .int .i64 0, .bool false, .int .i64 0, .int .i64 0, .slice none 0 0, .int .i64 0, .int .i64 0, .slice none 0 0, .slice none 0 0, .slice none 0 0, .bool false, .bool false, .int .i64 0, .slice none 0 0, .slice none 0 0, .slice none 0 0, .int .i64 0] 40)).there X.heap.size 0 l.toArray.size) := fun X l h => by rw [show l.toArray.size = 18 from h]; exact there_made _ _ _ _ rfl
  have HBX : Hid (∀ (X : World) (l : List Value), l.length = 18 → Box ((X.alloc (.cells #[.int .i64 0, .int .i64 0, .bool false, .int .i64 0, .int .i64 0, .slice none 0 0, .int .i64 0, .int .i64 0, .slice none 0 0, .slice none 0 0, .slice none 0 0, .bool false, .bool false, .int .i64 0, .slice none 0 0, .slice none 0 0, .slice none 0 0, .int .i64 0] 40)).setCells X.heap.size 0 l.toArray.toList) X.heap.size l.toArray) := fun X l h => (Box.new _ _ _ _ rfl).full (by rw [show l.toArray.size = 18 from h]; rfl)
  clear h hn
  have HR0 : Hid (World.rangeAt ((w.alloc (.cells cs.toArray 40)).alloc (.cells #[.int .i64 0, .int .i64 0, .bool false, .int .i64 0, .int .i64 0, .slice none 0 0, .int .i64 0, .int .i64 0, .slice none 0 0, .slice none 0 0, .slice none 0 0, .bool false, .bool false, .int .i64 0, .slice none 0 0, .slice none 0 0, .slice none 0 0, .int .i64 0] 40)) w.heap.size 0 cs) := ((Box.new w _ _ _ rfl).on (one_al _ _)).range rfl
  go_enter Try.func16, Try.ntmps16
  go_wp2_with (with_reducible refine wpList_load_mid (by with_reducible rfl) 40 (.tmp 1) (by with_reducible rfl) w.heap.size 0 (by with_unfolding_all rfl) cs _ HR0.out Try.underlying40 (by with_unfolding_all rfl) HS.out ?_)
  obtain ⟨wz, hwz, FB, RB, HB⟩ : ∃ wz, wz = (w.alloc (.cells cs.toArray 40)).alloc (.cells #[.int .i64 0, .int .i64 0, .bool false, .int .i64 0, .int .i64 0, .slice none 0 0, .int .i64 0, .int .i64 0, .slice none 0 0, .slice none 0 0, .slice none 0 0, .bool false, .bool false, .int .i64 0, .slice none 0 0, .slice none 0 0, .slice none 0 0, .int .i64 0] 40) ∧ Hid (Box wz w.heap.size cs.toArray) ∧ Hid (Box wz (w.heap.size + 1) #[.int .i64 0, .int .i64 0, .bool false, .int .i64 0, .int .i64 0, .slice none 0 0, .int .i64 0, .int .i64 0, .slice none 0 0, .slice none 0 0, .slice none 0 0, .bool false, .bool false, .int .i64 0, .slice none 0 0, .slice none 0 0, .slice none 0 0, .int .i64 0]) ∧ Hid (Below w.heap.size w wz) :=
    ⟨_, rfl, (Box.new w _ _ _ rfl).on (one_al _ _), Box.new _ _ _ _ (by simp), (one_al _ _).trans ((one_al _ _).mono (by simp))⟩
  rw [← hwz]
  clear hwz HR0
  refine (implValidR_any 0 cs U _ (HC.out.below HB.out)).mono ?_
  rintro e w1 ⟨rfl, hb⟩
  replace HB : Hid (Below w.heap.size w w1) := bt HB.out hb
  replace FB := hide (FB.out.on hb)
  replace RB := hide (RB.out.on hb)
  clear hb
  have hsz : w.heap.size + 2 ≤ w1.heap.size := by have := RB.out.lt; omega
  cases qv : validR U with
  | false =>
    have HV : Hid (riseU U = nwU 0 0 false) := by unfold Hid; rw [HE.out, qv]; rfl
    obtain ⟨zl, hzl⟩ : ∃ zl, zl = nwL 0 0 false := ⟨_, rfl⟩
    have hz18 : zl.length = 18 := by rw [hzl]; rfl
    have HON : Hid (zl.toArray.all (·.oneCell') = true) := by unfold Hid; rw [hzl]; exact nwL_one _ _ _
    have HZL := hide hzl
    have hzb : ∀ u, Sem.run Try.prog (zeroValue 40) u = .ok (.agg zl.toArray) u := by rw [hzl]; intro u; kernel_rfl
    clear hzl
    have HTH : Hid (World.there w1 (w.heap.size + 1) 0 zl.toArray.size) := by unfold Hid; rw [show zl.toArray.size = 18 from hz18]; exact RB.out.there rfl
    go_wp2_with (first
      | (with_reducible refine wpList_store_mid (by with_reducible rfl) 40 (.tmp 2) (.tmp 7) (by with_reducible rfl) (w.heap.size + 1) 0 zl.toArray (by with_unfolding_all rfl) (by with_unfolding_all rfl) HTH.out (szN hz18) HON.out ?_; refine Hid.out ?_))
    generalize hW : World.setCells _ _ _ _ = W9
    have FR9 : Hid (Box W9 (w.heap.size + 1) zl.toArray) := by unfold Hid; rw [← hW]; exact RB.out.full (by rw [show zl.toArray.size = 18 from hz18]; rfl)
    have TT : Hid (Touch (w.heap.size + 1) (w.heap.size + 2) w1 W9) := by unfold Hid; rw [← hW]; exact Touch.sets ⟨by omega, by omega⟩ _ _ _
    have HB9 : Hid (Below w.heap.size w W9) := HB.out.trans ((TT.out.under (by have := RB.out.lt; omega)).mono (by omega))
    clear hW
    refine hide ?_
    go_wp2
    exact bodyPost_ret (v := .agg zl.toArray) (res_rr (p := 2) (ty := 40) Try.results16 _ _ (w.heap.size + 1) 0 zl _ rfl (FR9.out.range rfl) Try.underlying40 rfl (by rw [hz18]; exact sizeRr)) rfl ⟨zl, rfl, HB9.out, by rw [HV.out, HZL.out]; exact nw_own _ _ _ _ _ HB9.out.size _⟩
  | true =>
  have HV : Hid (riseU U = riseUV U) := by unfold Hid; rw [HE.out, qv]; rfl
  have HTP : Hid (∀ (X : World) (l : List Value), l.length = 18 → (X.alloc (.cells #[.int .i64 0, .int .i64 0, .int .i64 0, .int .i64 0, .slice none 0 0, .bool false, .int .i64 0, .int .i64 0, .slice none 0 0, .slice none 0 0, .slice none 0 0, .bool false, .bool false, .int .i64 0, .slice none 0 0, .slice none 0 0, .slice none 0 0, .int .i64 0] 66)).there X.heap.size 0 l.toArray.size) := fun X l h => by rw [show l.toArray.size = 18 from h]; exact there_made _ _ _ _ rfl
  have HPX : Hid (∀ (X : World) (l : List Value), l.length = 18 → Box ((X.alloc (.cells #[.int .i64 0, .int .i64 0, .int .i64 0, .int .i64 0, .slice none 0 0, .bool false, .int .i64 0, .int .i64 0, .slice none 0 0, .slice none 0 0, .slice none 0 0, .bool false, .bool false, .int .i64 0, .slice none 0 0, .slice none 0 0, .slice none 0 0, .int .i64 0] 66)).setCells X.heap.size 0 l.toArray.toList) X.heap.size l.toArray) := fun X l h => (Box.new _ _ _ _ rfl).full (by rw [show l.toArray.size = 18 from h]; rfl)
  have HRA := hide (FB.out.range (l := cs) rfl)
  go_wp2_with (with_reducible refine wpList_load_mid (by with_reducible rfl) 40 (.tmp 1) (by with_reducible rfl) w.heap.size 0 (by with_unfolding_all rfl) cs _ HRA.out Try.underlying40 (by with_unfolding_all rfl) HS.out ?_)
  clear HRA
  refine (copyI_any 0 cs U _ (HC.out.below HB.out) HN.out).mono ?_
  rintro e w2 ⟨b0, m0, b1, m1, b2, m2, b3, m3, b4, m4, b5, m5, b6, m6, c, rfl, hb, hcp⟩
  have hs2 : w1.heap.size ≤ w2.heap.size := hb.size
  replace HB : Hid (Below w.heap.size w w2) := bt HB.out hb
  replace RB := hide (RB.out.on hb)
  have HCP := hide hcp
  clear hb hcp FB
  go_wp2_with fail
  refine (parts_any U b0 m0 b1 m1 b2 m2 b3 m3 b4 m4 b5 m5 b6 m6 _).mono ?_
  rintro e w3 ⟨rfl, hb⟩
  have hs3 : w2.heap.size ≤ w3.heap.size := hb.size
  replace HB : Hid (Below w.heap.size w w3) := bt HB.out hb
  replace RB := hide (RB.out.on hb)
  have H2 : Hid (Below w2.heap.size w2 w3) := hb
  clear hb
  obtain ⟨pl, hpl⟩ : ∃ pl, pl = rpL U b0 m0 b1 m1 b2 m2 b3 m3 b4 m4 b5 m5 b6 m6 := ⟨_, rfl⟩
  rw [← hpl]
  have hp18 : pl.length = 18 := by rw [hpl]; rfl
  have HON : Hid (pl.toArray.all (·.oneCell') = true) := by unfold Hid; rw [hpl]; exact rpL_one ..
  have HPL := hide hpl
  clear hpl
  go_wp2_with (with_reducible refine wpList_store_mid (by with_reducible rfl) 66 (.tmp 3) (.tmp 10) (by with_reducible rfl) w3.heap.size 0 pl.toArray (by with_unfolding_all rfl) (by with_unfolding_all rfl) (HTP.out _ _ hp18) (szP hp18) HON.out ?_; refine Hid.out ?_)
  generalize hW : World.setCells _ _ _ _ = w4
  have NB : Hid (Box w4 w3.heap.size pl.toArray) := by unfold Hid; rw [← hW]; exact HPX.out _ _ hp18
  have hb : Below w3.heap.size w3 w4 := by rw [← hW]; exact Below.sets (Nat.le_refl _) _ _ (one_al _ _)
  clear hW
  have hs4 : w3.heap.size < w4.heap.size := NB.out.lt
  replace HB : Hid (Below w.heap.size w w4) := bt HB.out hb
  replace RB := hide (RB.out.on hb)
  replace H2 : Hid (Below w2.heap.size w2 w4) := bt H2.out hb
  clear hb
  refine hide ?_
  have g5 : w4.cell? ⟨w3.heap.size, 5, none⟩ = some (.bool U.up) := by rw [NB.out.cell 5, HPL.out]; rfl
  have gf := NB.out.free
  obtain ⟨ql, hql⟩ : ∃ ql, ql = rpL (riseUV U) b0 m0 b1 m1 b2 m2 b3 m3 b4 m4 b5 m5 b6 m6 := ⟨_, rfl⟩
  obtain ⟨w5, hw5⟩ : ∃ w5, w5 = w4.setCell ⟨w3.heap.size, 5, none⟩ (.bool true) := ⟨_, rfl⟩
  have NB5 : Hid (Box w5 w3.heap.size ql.toArray) := by unfold Hid; rw [hw5, hql]; have hx := NB.out; rw [HPL.out] at hx; exact hx.set (k := 5) (.bool true) (by show 5 < 18; omega)
  have hq18 : ql.length = 18 := by rw [hql]; rfl
  have HQL := hide hql
  clear hql
  go_upto_region 5 with fail
  clear g5 gf
  rw [← hw5]
  have hb5 : Below w3.heap.size w4 w5 := by rw [hw5]; exact (Below.refl _ _).setCell (by simp only []; omega) _
  replace RB := hide (RB.out.below hb5 (by omega))
  replace HB : Hid (Below w.heap.size w w5) := HB.out.trans (hb5.mono (by omega))
  replace H2 : Hid (Below w2.heap.size w2 w5) := H2.out.trans (hb5.mono (by omega))
  have hs5 : w4.heap.size ≤ w5.heap.size := hb5.size
  clear hb5 hw5
  have HRA := hide (NB5.out.range (l := ql) rfl)
  have HSq : Hid ((Try.prog.info? 66).map (·.size) = some ql.length) := by unfold Hid; rw [hq18]; exact sizeRp
  go_wp2_with (with_reducible refine wpList_load_mid (by with_reducible rfl) 66 (.tmp 3) (by with_reducible rfl) w3.heap.size 0 (by with_unfolding_all rfl) ql _ HRA.out Try.underlying66 (by with_unfolding_all rfl) HSq.out ?_)
  clear HRA HSq
  rw [HQL.out]
  refine (whole_any (riseUV U) b0 m0 b1 m1 b2 m2 b3 m3 b4 m4 b5 m5 b6 m6 _).mono ?_
  rintro e w6 ⟨rfl, hb⟩
  replace HB : Hid (Below w.heap.size w w6) := bt HB.out hb
  replace RB := hide (RB.out.on hb)
  replace H2 : Hid (Below w2.heap.size w2 w6) := bt H2.out hb
  have hs6 : w5.heap.size ≤ w6.heap.size := hb.size
  clear hb
  obtain ⟨zl, hzl⟩ : ∃ zl, zl = rrL (riseUV U) b0 m0 b1 m1 b2 m2 b3 m3 b4 m4 b5 m5 b6 m6 := ⟨_, rfl⟩
  rw [← hzl]
  have hz18 : zl.length = 18 := by rw [hzl]; rfl
  have HONz : Hid (zl.toArray.all (·.oneCell') = true) := by unfold Hid; rw [hzl]; exact rrL_one ..
  have HZL := hide hzl
  clear hzl
  have HTH : Hid (World.there w6 (w.heap.size + 1) 0 zl.toArray.size) := by unfold Hid; rw [show zl.toArray.size = 18 from hz18]; exact RB.out.there rfl
  go_wp2_with (first
    | (with_reducible refine wpList_store_mid (by with_reducible rfl) 40 (.tmp 2) (.tmp 14) (by with_reducible rfl) (w.heap.size + 1) 0 zl.toArray (by with_unfolding_all rfl) (by with_unfolding_all rfl) HTH.out (szN hz18) HONz.out ?_; refine Hid.out ?_))
  generalize hW : World.setCells _ _ _ _ = W9
  have FR9 : Hid (Box W9 (w.heap.size + 1) zl.toArray) := by unfold Hid; rw [← hW]; exact RB.out.full (by rw [show zl.toArray.size = 18 from hz18]; rfl)
  have TT : Hid (Touch (w.heap.size + 1) (w.heap.size + 2) w6 W9) := by unfold Hid; rw [← hW]; exact Touch.sets ⟨by omega, by omega⟩ _ _ _
  have HB9 : Hid (Below w.heap.size w W9) := HB.out.trans ((TT.out.under (by have := RB.out.lt; omega)).mono (by omega))
  clear hW
  refine hide ?_
  go_wp2
  exact bodyPost_ret (v := .agg zl.toArray) (res_rr (p := 2) (ty := 40) Try.results16 _ _ (w.heap.size + 1) 0 zl _ rfl (FR9.out.range rfl) Try.underlying40 rfl (by rw [hz18]; exact sizeRr)) rfl ⟨zl, rfl, HB9.out, by
      rw [HV.out, HZL.out]
      have ho := (HCP.out.below H2.out).own HZ.out
      have ho' : RrOwn w1.heap.size w6.heap.size w6 (rrL (riseUV U) b0 m0 b1 m1 b2 m2 b3 m3 b4 m4 b5 m5 b6 m6) (riseUV U) := ⟨b0, m0, b1, m1, b2, m2, b3, m3, b4, m4, b5, m5, b6, m6, c, rfl, ⟨ho.seg, ho.ap, ho.o0, ho.o1, ho.o2, ho.o3, ho.o4, ho.o5, ho.o6⟩⟩
      exact (ho'.touch TT.out (Or.inr (by omega))).wide (by omega) TT.out.size⟩

set_option maxRecDepth 20000 in
set_option maxHeartbeats 16000000 in
theorem implFall_any (cs : List Value) (U : Rr) (w : World) (h : RrC 0 w cs U) (hn : RrSmall U) :
    Calls Try.prog 11 #[.agg cs.toArray] w fun e w' => ∃ cs', e = .returned (.agg cs'.toArray) ∧ Below w.heap.size w w' ∧ RrOwn w.heap.size w'.heap.size w' cs' (fallU U) := by
  have HC := hide h
  have HN := hide hn
  have HZ := hide h.sizes
  have HS : Hid ((Try.prog.info? 40).map (·.size) = some cs.length) := by unfold Hid; rw [h.len]; exact sizeRr
  have HE : Hid (fallU U = if validR U then fallUV U else nwU 0 0 false) := rfl
  have HTN : Hid (∀ (X : World) (l : List Value), l.length = 18 → (X.alloc (.cells #[.int .i64 0, .int .i64 0, .bool false, .int .i64 0, .int .i64 0, .slice none 0 0, .int .i64 0, .int .i64 0, .slice none 0 0, .slice none 0 0, .slice none 0 0, .bool false, .bool false, .int .i64 0, .slice none 0 0, .slice none 0 0, .slice none 0 0, .int .i64 0] 40)).there X.heap.size 0 l.toArray.size) := fun X l h => by rw [show l.toArray.size = 18 from h]; exact there_made _ _ _ _ rfl
  have HBX : Hid (∀ (X : World) (l : List Value), l.length = 18 → Box ((X.alloc (.cells #[.int .i64 0, .int .i64 0, .bool false, .int .i64 0, .int .i64 0, .slice none 0 0, .int .i64 0, .int .i64 0, .slice none 0 0, .slice none 0 0, .slice none 0 0, .bool false, .bool false, .int .i64 0, .slice none 0 0, .slice none 0 0, .slice none 0 0, .int .i64 0] 40)).setCells X.heap.size 0 l.toArray.toList) X.heap.size l.toArray) := fun X l h => (Box.new _ _ _ _ rfl).full (by rw [show l.toArray.size = 18 from h]; rfl)
  clear h hn
  have HR0 : Hid (World.rangeAt ((w.alloc (.cells cs.toArray 40)).alloc (.cells #[.int .i64 0, .int .i64 0, .bool false, .int .i64 0, .int .i64 0, .slice none 0 0, .int .i64 0, .int .i64 0, .slice none 0 0, .slice none 0 0, .slice none 0 0, .bool false, .bool false, .int .i64 0, .slice none 0 0, .slice none 0 0, .slice none 0 0, .int .i64 0] 40)) w.heap.size 0 cs) := ((Box.new w _ _ _ rfl).on (one_al _ _)).range rfl
  go_enter Try.func11, Try.ntmps11
  go_wp2_with (with_reducible refine wpList_load_mid (by with_reducible rfl) 40 (.tmp 1) (by with_reducible rfl) w.heap.size 0 (by with_unfolding_all rfl) cs _ HR0.out Try.underlying40 (by with_unfolding_all rfl) HS.out ?_)
  obtain ⟨wz, hwz, FB, RB, HB⟩ : ∃ wz, wz = (w.alloc (.cells cs.toArray 40)).alloc (.cells #[.int .i64 0, .int .i64 0, .bool false, .int .i64 0, .int .i64 0, .slice none 0 0, .int .i64 0, .int .i64 0, .slice none 0 0, .slice none 0 0, .slice none 0 0, .bool false, .bool false, .int .i64 0, .slice none 0 0, .slice none 0 0, .slice none 0 0, .int .i64 0] 40) ∧ Hid (Box wz w.heap.size cs.toArray) ∧ Hid (Box wz (w.heap.size + 1) #[.int .i64 0, .int .i64 0, .bool false, .int .i64 0, .int .i64 0, .slice none 0 0, .int .i64 0, .int .i64 0, .slice none 0 0, .slice none 0 0, .slice none 0 0, .bool false, .bool false, .int .i64 0, .slice none 0 0, .slice none 0 0, .slice none 0 0, .int .i64 0]) ∧ Hid (Below w.heap.size w wz) :=
    ⟨_, rfl, (Box.new w _ _ _ rfl).on (one_al _ _), Box.new _ _ _ _ (by simp), (one_al _ _).trans ((one_al _ _).mono (by simp))⟩
  rw [← hwz]
  clear hwz HR0
  refine (implValidR_any 0 cs U _ (HC.out.below HB.out)).mono ?_
  rintro e w1 ⟨rfl, hb⟩
  replace HB : Hid (Below w.heap.size w w1) := bt HB.out hb
  replace FB := hide (FB.out.on hb)
  replace RB := hide (RB.out.on hb)
  clear hb
  have hsz : w.heap.size + 2 ≤ w1.heap.size := by have := RB.out.lt; omega
  cases qv : validR U with
  | false =>
    have HV : Hid (fallU U = nwU 0 0 false) := by unfold Hid; rw [HE.out, qv]; rfl
    obtain ⟨zl, hzl⟩ : ∃ zl, zl = nwL 0 0 false := ⟨_, rfl⟩
    have hz18 : zl.length = 18 := by rw [hzl]; rfl
    have HON : Hid (zl.toArray.all (·.oneCell') = true) := by unfold Hid; rw [hzl]; exact nwL_one _ _ _
    have HZL := hide hzl
    have hzb : ∀ u, Sem.run Try.prog (zeroValue 40) u = .ok (.agg zl.toArray) u := by rw [hzl]; intro u; kernel_rfl
    clear hzl
    have HTH : Hid (World.there w1 (w.heap.size + 1) 0 zl.toArray.size) := by unfold Hid; rw [show zl.toArray.size = 18 from hz18]; exact RB.out.there rfl
    go_wp2_with (first
      | (with_reducible refine wpList_store_mid (by with_reducible rfl) 40 (.tmp 2) (.tmp 7) (by with_reducible rfl) (w.heap.size + 1) 0 zl.toArray (by with_unfolding_all rfl) (by with_unfolding_all rfl) HTH.out (szN hz18) HON.out ?_; refine Hid.out ?_))
    generalize hW : World.setCells _ _ _ _ = W9
    have FR9 : Hid (Box W9 (w.heap.size + 1) zl.toArray) := by unfold Hid; rw [← hW]; exact RB.out.full (by rw [show zl.toArray.size = 18 from hz18]; rfl)
    have TT : Hid (Touch (w.heap.size + 1) (w.heap.size + 2) w1 W9) := by unfold Hid; rw [← hW]; exact Touch.sets ⟨by omega, by omega⟩ _ _ _
    have HB9 : Hid (Below w.heap.size w W9) := HB.out.trans ((TT.out.under (by have := RB.out.lt; omega)).mono (by omega))
    clear hW
    refine hide ?_
    go_wp2
    exact bodyPost_ret (v := .agg zl.toArray) (res_rr (p := 2) (ty := 40) Try.results11 _ _ (w.heap.size + 1) 0 zl _ rfl (FR9.out.range rfl) Try.underlying40 rfl (by rw [hz18]; exact sizeRr)) rfl ⟨zl, rfl, HB9.out, by rw [HV.out, HZL.out]; exact nw_own _ _ _ _ _ HB9.out.size _⟩
  | true =>
  have HV : Hid (fallU U = fallUV U) := by unfold Hid; rw [HE.out, qv]; rfl
  have HTP : Hid (∀ (X : World) (l : List Value), l.length = 18 → (X.alloc (.cells #[.int .i64 0, .int .i64 0, .int .i64 0, .int .i64 0, .slice none 0 0, .bool false, .int .i64 0, .int .i64 0, .slice none 0 0, .slice none 0 0, .slice none 0 0, .bool false, .bool false, .int .i64 0, .slice none 0 0, .slice none 0 0, .slice none 0 0, .int .i64 0] 66)).there X.heap.size 0 l.toArray.size) := fun X l h => by rw [show l.toArray.size = 18 from h]; exact there_made _ _ _ _ rfl
  have HPX : Hid (∀ (X : World) (l : List Value), l.length = 18 → Box ((X.alloc (.cells #[.int .i64 0, .int .i64 0, .int .i64 0, .int .i64 0, .slice none 0 0, .bool false, .int .i64 0, .int .i64 0, .slice none 0 0, .slice none 0 0, .slice none 0 0, .bool false, .bool false, .int .i64 0, .slice none 0 0, .slice none 0 0, .slice none 0 0, .int .i64 0] 66)).setCells X.heap.size 0 l.toArray.toList) X.heap.size l.toArray) := fun X l h => (Box.new _ _ _ _ rfl).full (by rw [show l.toArray.size = 18 from h]; rfl)
  have HRA := hide (FB.out.range (l := cs) rfl)
  go_wp2_with (with_reducible refine wpList_load_mid (by with_reducible rfl) 40 (.tmp 1) (by with_reducible rfl) w.heap.size 0 (by with_unfolding_all rfl) cs _ HRA.out Try.underlying40 (by with_unfolding_all rfl) HS.out ?_)
  clear HRA
  refine (copyI_any 0 cs U _ (HC.out.below HB.out) HN.out).mono ?_
  rintro e w2 ⟨b0, m0, b1, m1, b2, m2, b3, m3, b4, m4, b5, m5, b6, m6, c, rfl, hb, hcp⟩
  have hs2 : w1.heap.size ≤ w2.heap.size := hb.size
  replace HB : Hid (Below w.heap.size w w2) := bt HB.out hb
  replace RB := hide (RB.out.on hb)
  have HCP := hide hcp
  clear hb hcp FB
  go_wp2_with fail
  refine (parts_any U b0 m0 b1 m1 b2 m2 b3 m3 b4 m4 b5 m5 b6 m6 _).mono ?_
  rintro e w3 ⟨rfl, hb⟩
  have hs3 : w2.heap.size ≤ w3.heap.size := hb.size
  replace HB : Hid (Below w.heap.size w w3) := bt HB.out hb
  replace RB := hide (RB.out.on hb)
  have H2 : Hid (Below w2.heap.size w2 w3) := hb
  clear hb
  obtain ⟨pl, hpl⟩ : ∃ pl, pl = rpL U b0 m0 b1 m1 b2 m2 b3 m3 b4 m4 b5 m5 b6 m6 := ⟨_, rfl⟩
  rw [← hpl]
  have hp18 : pl.length = 18 := by rw [hpl]; rfl
  have HON : Hid (pl.toArray.all (·.oneCell') = true) := by unfold Hid; rw [hpl]; exact rpL_one ..
  have HPL := hide hpl
  clear hpl
  go_wp2_with (with_reducible refine wpList_store_mid (by with_reducible rfl) 66 (.tmp 3) (.tmp 10) (by with_reducible rfl) w3.heap.size 0 pl.toArray (by with_unfolding_all rfl) (by with_unfolding_all rfl) (HTP.out _ _ hp18) (szP hp18) HON.out ?_; refine Hid.out ?_)
  generalize hW : World.setCells _ _ _ _ = w4
  have NB : Hid (Box w4 w3.heap.size pl.toArray) := by unfold Hid; rw [← hW]; exact HPX.out _ _ hp18
  have hb : Below w3.heap.size w3 w4 := by rw [← hW]; exact Below.sets (Nat.le_refl _) _ _ (one_al _ _)
  clear hW
  have hs4 : w3.heap.size < w4.heap.size := NB.out.lt
  replace HB : Hid (Below w.heap.size w w4) := bt HB.out hb
  replace RB := hide (RB.out.on hb)
  replace H2 : Hid (Below w2.heap.size w2 w4) := bt H2.out hb
  clear hb
  refine hide ?_
  have g2 : w4.cell? ⟨w3.heap.size, 2, none⟩ = some (.int .i64 U.sf.pr) := by rw [NB.out.cell 2, HPL.out]; rfl
  have g3 : w4.cell? ⟨w3.heap.size, 3, none⟩ = some (.int .i64 U.sf.kn) := by rw [NB.out.cell 3, HPL.out]; rfl
  have g4 : w4.cell? ⟨w3.heap.size, 4, none⟩ = some (.slice b0 U.sf.sl.length m0) := by rw [NB.out.cell 4, HPL.out]; rfl
  have hq0 := HN.out.1.1
  go_wp2_with fail
  clear g2 g3 g4
  refine (copyDk_any _ U.sf b0 m0 _ ((HCP.out.below H2.out).o0.rss HZ.out.z0).at hq0).mono ?_
  rintro e w4a ⟨b9, m9, rfl, hb, hs⟩
  have hs4a : w4.heap.size ≤ w4a.heap.size := hb.size
  have N9 : Hid (NRow rsL 2 w4a w4.heap.size w4a.heap.size (.slice b9 U.sf.sl.length m9) U.sf.sl) := hs
  replace HB : Hid (Below w.heap.size w w4a) := bt HB.out hb
  replace RB := hide (RB.out.on hb)
  replace NB := hide (NB.out.on hb)
  replace H2 : Hid (Below w2.heap.size w2 w4a) := bt H2.out hb
  clear hb hs
  obtain ⟨ql, hql⟩ : ∃ ql, ql = rpL (fallUV U) b0 m0 b9 m9 none 0 none 0 none 0 none 0 none 0 := ⟨_, rfl⟩
  have hq18 : ql.length = 18 := by rw [hql]; rfl
  have HQL := hide hql
  clear hql
  have HTF : Hid (World.there w4a w3.heap.size 5 (fgL U.sf b9 m9).toArray.size) := fun j hj => by have ht := NB.out.there rfl (5 + j) (by rw [show pl.toArray.size = 18 from hp18]; have hj' : j < 13 := hj; omega); rw [Nat.zero_add] at ht; exact ht
  have HSF : Hid ((Try.prog.info? 64).map (·.size) = some (fgL U.sf b9 m9).toArray.size) := size_fg
  have HOF : Hid ((fgL U.sf b9 m9).toArray.all (·.oneCell') = true) := by unfold Hid; simp [fgL, Value.oneCell']
  go_wp2_with (with_reducible refine wpList_store_mid (by with_reducible rfl) 64 (.tmp 16) (.tmp 15) (by with_reducible rfl) w3.heap.size 5 (fgL U.sf b9 m9).toArray (by with_unfolding_all rfl) (by with_unfolding_all rfl) HTF.out HSF.out HOF.out ?_; refine Hid.out ?_)
  generalize hW : World.setCells _ _ _ _ = w5
  have NB5 : Hid (Box w5 w3.heap.size ql.toArray) := by
    unfold Hid
    rw [← hW, HQL.out]
    have hx := NB.out
    rw [HPL.out] at hx
    exact Box.midL [.int .i64 U.nu, .int .i64 U.of, .int .i64 U.sf.pr, .int .i64 U.sf.kn, .slice b0 U.sf.sl.length m0] [.bool U.up, .int .i64 U.dk.pr, .int .i64 U.dk.kn, .slice b1 U.dk.sl.length m1, .slice b2 U.he.length m2, .slice b3 U.wi.length m3, .bool U.ld, .bool U.ty, .int .i64 U.ba, .slice b4 U.ye.length m4, .slice b5 U.be.length m5, .slice b6 U.ac.length m6, .int .i64 U.hd] [] (fgL U.sf b9 m9) hx rfl rfl
  have TT5 : Hid (Touch w3.heap.size (w3.heap.size + 1) w4a w5) := by unfold Hid; rw [← hW]; exact Touch.sets ⟨by omega, by omega⟩ _ _ _
  clear hW
  have hs5 : w4a.heap.size ≤ w5.heap.size := TT5.out.size
  replace RB := hide (RB.out.tch2 TT5.out (by omega))
  replace HB : Hid (Below w.heap.size w w5) := HB.out.trans ((TT5.out.under (by omega)).mono (by omega))
  replace H2 : Hid (Below w2.heap.size w2 w5) := H2.out.trans ((TT5.out.under (by omega)).mono (by omega))
  replace N9 : Hid (NRow rsL 2 w5 w4.heap.size w4a.heap.size (.slice b9 U.sf.sl.length m9) U.sf.sl) := N9.out.touch TT5.out (by omega)
  refine hide ?_
  have HRA := hide (NB5.out.range (l := ql) rfl)
  have HSq : Hid ((Try.prog.info? 66).map (·.size) = some ql.length) := by unfold Hid; rw [hq18]; exact sizeRp
  go_wp2_with (with_reducible refine wpList_load_mid (by with_reducible rfl) 66 (.tmp 3) (by with_reducible rfl) w3.heap.size 0 (by with_unfolding_all rfl) ql _ HRA.out Try.underlying66 (by with_unfolding_all rfl) HSq.out ?_)
  clear HRA HSq
  rw [HQL.out]
  refine (whole_any (fallUV U) b0 m0 b9 m9 none 0 none 0 none 0 none 0 none 0 _).mono ?_
  rintro e w6 ⟨rfl, hb⟩
  replace HB : Hid (Below w.heap.size w w6) := bt HB.out hb
  replace RB := hide (RB.out.on hb)
  replace H2 : Hid (Below w2.heap.size w2 w6) := bt H2.out hb
  have hs6 : w5.heap.size ≤ w6.heap.size := hb.size
  replace N9 := hide (N9.out.below hb)
  clear hb
  obtain ⟨zl, hzl⟩ : ∃ zl, zl = rrL (fallUV U) b0 m0 b9 m9 none 0 none 0 none 0 none 0 none 0 := ⟨_, rfl⟩
  rw [← hzl]
  have hz18 : zl.length = 18 := by rw [hzl]; rfl
  have HONz : Hid (zl.toArray.all (·.oneCell') = true) := by unfold Hid; rw [hzl]; exact rrL_one ..
  have HZL := hide hzl
  clear hzl
  have HTH : Hid (World.there w6 (w.heap.size + 1) 0 zl.toArray.size) := by unfold Hid; rw [show zl.toArray.size = 18 from hz18]; exact RB.out.there rfl
  go_wp2_with (first
    | (with_reducible refine wpList_store_mid (by with_reducible rfl) 40 (.tmp 2) (.tmp 18) (by with_reducible rfl) (w.heap.size + 1) 0 zl.toArray (by with_unfolding_all rfl) (by with_unfolding_all rfl) HTH.out (szN hz18) HONz.out ?_; refine Hid.out ?_))
  generalize hW : World.setCells _ _ _ _ = W9
  have FR9 : Hid (Box W9 (w.heap.size + 1) zl.toArray) := by unfold Hid; rw [← hW]; exact RB.out.full (by rw [show zl.toArray.size = 18 from hz18]; rfl)
  have TT : Hid (Touch (w.heap.size + 1) (w.heap.size + 2) w6 W9) := by unfold Hid; rw [← hW]; exact Touch.sets ⟨by omega, by omega⟩ _ _ _
  have HB9 : Hid (Below w.heap.size w W9) := HB.out.trans ((TT.out.under (by have := RB.out.lt; omega)).mono (by omega))
  clear hW
  refine hide ?_
  go_wp2
  exact bodyPost_ret (v := .agg zl.toArray) (res_rr (p := 2) (ty := 40) Try.results11 _ _ (w.heap.size + 1) 0 zl _ rfl (FR9.out.range rfl) Try.underlying40 rfl (by rw [hz18]; exact sizeRr)) rfl ⟨zl, rfl, HB9.out, by
      rw [HV.out, HZL.out]
      have s0 := HCP.out.seg 0 (by decide)
      have ho' : RrOwn w1.heap.size w6.heap.size w6 (rrL (fallUV U) b0 m0 b9 m9 none 0 none 0 none 0 none 0 none 0) (fallUV U) := by
        refine ⟨b0, m0, b9, m9, none, 0, none, 0, none, 0, none, 0, none, 0, fun i => (lo7 (c 0).1 w4.heap.size w1.heap.size w1.heap.size w1.heap.size w1.heap.size w1.heap.size i, lo7 (c 0).2 w4a.heap.size w1.heap.size w1.heap.size w1.heap.size w1.heap.size w1.heap.size i), rfl, ⟨fun i hi => ?_, fun i j hi hj hne => ?_, (HCP.out.below H2.out).o0.rss HZ.out.z0, N9.out.rss HZ.out.z0, Or.inl ⟨none, 0, rfl, rfl⟩, Or.inl ⟨none, 0, rfl, rfl⟩, Or.inl ⟨none, 0, rfl, rfl⟩, Or.inl ⟨none, 0, rfl, rfl⟩, Or.inl ⟨none, 0, rfl, rfl⟩⟩⟩
        · rcases (by omega : i = 0 ∨ i = 1 ∨ i = 2 ∨ i = 3 ∨ i = 4 ∨ i = 5 ∨ i = 6) with rfl | rfl | rfl | rfl | rfl | rfl | rfl <;> simp only [lo7] <;> omega
        · rcases (by omega : i = 0 ∨ i = 1 ∨ i = 2 ∨ i = 3 ∨ i = 4 ∨ i = 5 ∨ i = 6) with rfl | rfl | rfl | rfl | rfl | rfl | rfl <;> rcases (by omega : j = 0 ∨ j = 1 ∨ j = 2 ∨ j = 3 ∨ j = 4 ∨ j = 5 ∨ j = 6) with rfl | rfl | rfl | rfl | rfl | rfl | rfl <;> simp only [lo7] <;> omega
      exact (ho'.touch TT.out (Or.inr (by omega))).wide (by omega) TT.out.size⟩
end Go.Proofs.Ytfbfgljkiikabaa
