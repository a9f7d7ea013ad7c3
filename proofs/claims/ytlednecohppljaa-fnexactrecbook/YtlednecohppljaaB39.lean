import Derived.Test.YtlednecohppljaaB37
namespace Go.Proofs.Ytlednecohppljaa
open Go.RowKit Go.Deep

set_option maxHeartbeats 1000000 in
theorem markRdO_any (lo hi : Nat) (a : Option Addr) (m : Nat) (D : Rd) (k : Int) (w : World) (h : RssOwn lo hi w (.slice a D.sl.length m) D.sl) (hn : RdSmall D) (h0 : 0 ≤ k) (hk : k ≤ 2000000000000000000) :
    Calls Try.prog 46 #[.agg #[.int .i64 D.pr, .int .i64 D.kn, .slice a D.sl.length m], .int .i64 k] w fun e w' => e = .returned (.int .i64 (k + (posRs D.sl D.sl.length : Int))) ∧ Touch lo hi w w' ∧ RssOwn lo hi w' (.slice a D.sl.length m) (mkRss k D.sl) := by
  have H := hide h
  clear h
  have HO : ∀ o, Hid (Below w.heap.size w (w.alloc o)) := fun o => one_al w o
  go_enter Try.func46, Try.ntmps46
  go_wp2_with fail
  refine (markRss_any lo hi _ D.sl k _ (H.out.below (HO _).out) hn h0 hk).mono ?_
  rintro e w1 ⟨rfl, ht, ho⟩
  have HT := hide ((Touch.below (HO _).out).trans ht)
  have HW := hide ho
  clear ht ho
  go_wp2
  go_ret
  exact ⟨rfl, HT.out, HW.out⟩

set_option maxRecDepth 20000 in
set_option maxHeartbeats 8000000 in
theorem markRr_any (lo hi : Nat) (cs : List Value) (U : Rr) (k : Int) (w : World) (h : RrOwn lo hi w cs U) (hhi : hi ≤ w.heap.size) (hn : RrSmall U) (h0 : 0 ≤ k) (hk : k ≤ 1000000000000000) :
    Calls Try.prog 18 #[.agg cs.toArray, .int .i64 k] w fun e w' => e = .returned (.int .i64 (kR7 k U)) ∧ Touch lo hi w w' ∧ RrOwn lo hi w' cs (mkRr k U) := by
  have HN := hide hn
  obtain ⟨b1, b2, b3, b4, b5, b6, b7⟩ := kR_bd hn h0 hk
  have w3 := hn.2.2.2.1
  have w4 := hn.2.2.2.2.1
  unfold RtsSmall at w3
  unfold RisSmall at w4
  obtain ⟨a0, k0, a1, k1, a2, k2, a3, k3, a4, k4, a5, k5, a6, k6, c, hcs, h⟩ := h
  have c3 : cs[3]? = some (.int .i64 U.sf.pr) := by rw [hcs]; rfl
  have c4 : cs[4]? = some (.int .i64 U.sf.kn) := by rw [hcs]; rfl
  have c5 : cs[5]? = some (.slice a0 U.sf.sl.length k0) := by rw [hcs]; rfl
  have c6 : cs[6]? = some (.int .i64 U.dk.pr) := by rw [hcs]; rfl
  have c7 : cs[7]? = some (.int .i64 U.dk.kn) := by rw [hcs]; rfl
  have c8 : cs[8]? = some (.slice a1 U.dk.sl.length k1) := by rw [hcs]; rfl
  have c9 : cs[9]? = some (.slice a2 U.he.length k2) := by rw [hcs]; rfl
  have c10 : cs[10]? = some (.slice a3 U.wi.length k3) := by rw [hcs]; rfl
  have c14 : cs[14]? = some (.slice a4 U.ye.length k4) := by rw [hcs]; rfl
  have c15 : cs[15]? = some (.slice a5 U.be.length k5) := by rw [hcs]; rfl
  have c16 : cs[16]? = some (.slice a6 U.ac.length k6) := by rw [hcs]; rfl
  have HCS := hide hcs
  have HSG := hide h.seg
  have HAP := hide h.ap
  have O0 := hide h.o0
  have O1 := hide h.o1
  have O2 := hide h.o2
  have O3 := hide h.o3
  have O4 := hide h.o4
  have O5 := hide h.o5
  have O6 := hide h.o6
  clear h hcs hn
  go_enter Try.func18, Try.ntmps18
  go_wp2_with fail
  generalize hWa : w.alloc _ = Wa
  have HB : Hid (Below w.heap.size w Wa) := by unfold Hid; rw [← hWa]; exact (one_al w _)
  have F : Hid (Box Wa w.heap.size cs.toArray) := by unfold Hid; rw [← hWa]; exact (Box.new _ _ _ _ rfl)
  clear hWa
  have HT : Hid (Touch lo hi w Wa) := Touch.below HB.out
  replace O0 := hide (O0.out.below HB.out)
  replace O1 := hide (O1.out.below HB.out)
  replace O2 := hide (O2.out.below HB.out)
  replace O3 := hide (O3.out.below HB.out)
  replace O4 := hide (O4.out.below HB.out)
  replace O5 := hide (O5.out.below HB.out)
  replace O6 := hide (O6.out.below HB.out)
  refine (markRdO_any (c 0).1 (c 0).2 a0 k0 U.sf (kR0 k U) _ O0.out HN.out.1 (show (0 : Int) ≤ kR0 k U from h0) (show kR0 k U ≤ 2000000000000000000 from Int.le_trans hk (by decide))).mono ?_
  rintro e w11 ⟨rfl, ht, ho⟩
  rw [show kR0 k U + (posRs U.sf.sl U.sf.sl.length : Int) = kR1 k U from rfl]
  replace HT : Hid (Touch lo hi w w11) := HT.out.trans (ht.wide (HSG.out 0 (by decide)).1 (HSG.out 0 (by decide)).2)
  replace F := hide (F.out.tch ht (Nat.le_trans (HSG.out 0 (by decide)).2 hhi))
  replace O1 := hide (O1.out.touch ht (HAP.out 1 0 (by decide) (by decide) (by decide)))
  replace O2 := hide (O2.out.touch ht (HAP.out 2 0 (by decide) (by decide) (by decide)))
  replace O3 := hide (O3.out.touch ht (HAP.out 3 0 (by decide) (by decide) (by decide)))
  replace O4 := hide (O4.out.touch ht (HAP.out 4 0 (by decide) (by decide) (by decide)))
  replace O5 := hide (O5.out.touch ht (HAP.out 5 0 (by decide) (by decide) (by decide)))
  replace O6 := hide (O6.out.touch ht (HAP.out 6 0 (by decide) (by decide) (by decide)))
  clear O0 ht
  have O0 := hide ho
  clear ho
  have g6 : w11.cell? ⟨w.heap.size, 6, none⟩ = some (.int .i64 U.dk.pr) := by rw [F.out.cell 6, List.getElem?_toArray]; exact c6
  have g7 : w11.cell? ⟨w.heap.size, 7, none⟩ = some (.int .i64 U.dk.kn) := by rw [F.out.cell 7, List.getElem?_toArray]; exact c7
  have g8 : w11.cell? ⟨w.heap.size, 8, none⟩ = some (.slice a1 U.dk.sl.length k1) := by rw [F.out.cell 8, List.getElem?_toArray]; exact c8
  go_wp2_with fail
  clear g6 g7 g8
  refine (markRdO_any (c 1).1 (c 1).2 a1 k1 U.dk (kR1 k U) _ O1.out HN.out.2.1 (by omega) (by omega)).mono ?_
  rintro e w12 ⟨rfl, ht, ho⟩
  rw [show kR1 k U + (posRs U.dk.sl U.dk.sl.length : Int) = kR2 k U from rfl]
  replace HT : Hid (Touch lo hi w w12) := HT.out.trans (ht.wide (HSG.out 1 (by decide)).1 (HSG.out 1 (by decide)).2)
  replace F := hide (F.out.tch ht (Nat.le_trans (HSG.out 1 (by decide)).2 hhi))
  replace O0 := hide (O0.out.touch ht (HAP.out 0 1 (by decide) (by decide) (by decide)))
  replace O2 := hide (O2.out.touch ht (HAP.out 2 1 (by decide) (by decide) (by decide)))
  replace O3 := hide (O3.out.touch ht (HAP.out 3 1 (by decide) (by decide) (by decide)))
  replace O4 := hide (O4.out.touch ht (HAP.out 4 1 (by decide) (by decide) (by decide)))
  replace O5 := hide (O5.out.touch ht (HAP.out 5 1 (by decide) (by decide) (by decide)))
  replace O6 := hide (O6.out.touch ht (HAP.out 6 1 (by decide) (by decide) (by decide)))
  clear O1 ht
  have O1 := hide ho
  clear ho
  have g9 : w12.cell? ⟨w.heap.size, 9, none⟩ = some (.slice a2 U.he.length k2) := by rw [F.out.cell 9, List.getElem?_toArray]; exact c9
  go_wp2_with fail
  clear g9
  refine (markRms_any (c 2).1 (c 2).2 _ U.he (kR2 k U) _ O2.out HN.out.2.2.1 (by omega) (by omega)).mono ?_
  rintro e w13 ⟨rfl, ht, ho⟩
  rw [show kR2 k U + (posRm U.he U.he.length : Int) = kR3 k U from rfl]
  replace HT : Hid (Touch lo hi w w13) := HT.out.trans (ht.wide (HSG.out 2 (by decide)).1 (HSG.out 2 (by decide)).2)
  replace F := hide (F.out.tch ht (Nat.le_trans (HSG.out 2 (by decide)).2 hhi))
  replace O0 := hide (O0.out.touch ht (HAP.out 0 2 (by decide) (by decide) (by decide)))
  replace O1 := hide (O1.out.touch ht (HAP.out 1 2 (by decide) (by decide) (by decide)))
  replace O3 := hide (O3.out.touch ht (HAP.out 3 2 (by decide) (by decide) (by decide)))
  replace O4 := hide (O4.out.touch ht (HAP.out 4 2 (by decide) (by decide) (by decide)))
  replace O5 := hide (O5.out.touch ht (HAP.out 5 2 (by decide) (by decide) (by decide)))
  replace O6 := hide (O6.out.touch ht (HAP.out 6 2 (by decide) (by decide) (by decide)))
  clear O2 ht
  have O2 := hide ho
  clear ho
  have g10 : w13.cell? ⟨w.heap.size, 10, none⟩ = some (.slice a3 U.wi.length k3) := by rw [F.out.cell 10, List.getElem?_toArray]; exact c10
  go_wp2_with fail
  clear g10
  refine (markRts_any (c 3).1 (c 3).2 _ U.wi (kR3 k U) _ O3.out (by omega) (by omega)).mono ?_
  rintro e w14 ⟨rfl, ht, ho⟩
  rw [show kR3 k U + (U.wi.length : Int) = kR4 k U from rfl]
  replace HT : Hid (Touch lo hi w w14) := HT.out.trans (ht.wide (HSG.out 3 (by decide)).1 (HSG.out 3 (by decide)).2)
  replace F := hide (F.out.tch ht (Nat.le_trans (HSG.out 3 (by decide)).2 hhi))
  replace O0 := hide (O0.out.touch ht (HAP.out 0 3 (by decide) (by decide) (by decide)))
  replace O1 := hide (O1.out.touch ht (HAP.out 1 3 (by decide) (by decide) (by decide)))
  replace O2 := hide (O2.out.touch ht (HAP.out 2 3 (by decide) (by decide) (by decide)))
  replace O4 := hide (O4.out.touch ht (HAP.out 4 3 (by decide) (by decide) (by decide)))
  replace O5 := hide (O5.out.touch ht (HAP.out 5 3 (by decide) (by decide) (by decide)))
  replace O6 := hide (O6.out.touch ht (HAP.out 6 3 (by decide) (by decide) (by decide)))
  clear O3 ht
  have O3 := hide ho
  clear ho
  have g14 : w14.cell? ⟨w.heap.size, 14, none⟩ = some (.slice a4 U.ye.length k4) := by rw [F.out.cell 14, List.getElem?_toArray]; exact c14
  go_wp2_with fail
  clear g14
  refine (markRis_any (c 4).1 (c 4).2 _ U.ye (kR4 k U) _ O4.out (by omega) (by omega)).mono ?_
  rintro e w15 ⟨rfl, ht, ho⟩
  rw [show kR4 k U + (U.ye.length : Int) = kR5 k U from rfl]
  replace HT : Hid (Touch lo hi w w15) := HT.out.trans (ht.wide (HSG.out 4 (by decide)).1 (HSG.out 4 (by decide)).2)
  replace F := hide (F.out.tch ht (Nat.le_trans (HSG.out 4 (by decide)).2 hhi))
  replace O0 := hide (O0.out.touch ht (HAP.out 0 4 (by decide) (by decide) (by decide)))
  replace O1 := hide (O1.out.touch ht (HAP.out 1 4 (by decide) (by decide) (by decide)))
  replace O2 := hide (O2.out.touch ht (HAP.out 2 4 (by decide) (by decide) (by decide)))
  replace O3 := hide (O3.out.touch ht (HAP.out 3 4 (by decide) (by decide) (by decide)))
  replace O5 := hide (O5.out.touch ht (HAP.out 5 4 (by decide) (by decide) (by decide)))
  replace O6 := hide (O6.out.touch ht (HAP.out 6 4 (by decide) (by decide) (by decide)))
  clear O4 ht
  have O4 := hide ho
  clear ho
  have g15 : w15.cell? ⟨w.heap.size, 15, none⟩ = some (.slice a5 U.be.length k5) := by rw [F.out.cell 15, List.getElem?_toArray]; exact c15
  go_wp2_with fail
  clear g15
  refine (markRss_any (c 5).1 (c 5).2 _ U.be (kR5 k U) _ O5.out HN.out.2.2.2.2.2.1 (by omega) (by omega)).mono ?_
  rintro e w16 ⟨rfl, ht, ho⟩
  rw [show kR5 k U + (posRs U.be U.be.length : Int) = kR6 k U from rfl]
  replace HT : Hid (Touch lo hi w w16) := HT.out.trans (ht.wide (HSG.out 5 (by decide)).1 (HSG.out 5 (by decide)).2)
  replace F := hide (F.out.tch ht (Nat.le_trans (HSG.out 5 (by decide)).2 hhi))
  replace O0 := hide (O0.out.touch ht (HAP.out 0 5 (by decide) (by decide) (by decide)))
  replace O1 := hide (O1.out.touch ht (HAP.out 1 5 (by decide) (by decide) (by decide)))
  replace O2 := hide (O2.out.touch ht (HAP.out 2 5 (by decide) (by decide) (by decide)))
  replace O3 := hide (O3.out.touch ht (HAP.out 3 5 (by decide) (by decide) (by decide)))
  replace O4 := hide (O4.out.touch ht (HAP.out 4 5 (by decide) (by decide) (by decide)))
  replace O6 := hide (O6.out.touch ht (HAP.out 6 5 (by decide) (by decide) (by decide)))
  clear O5 ht
  have O5 := hide ho
  clear ho
  have g16 : w16.cell? ⟨w.heap.size, 16, none⟩ = some (.slice a6 U.ac.length k6) := by rw [F.out.cell 16, List.getElem?_toArray]; exact c16
  go_wp2_with fail
  clear g16
  refine (markRas_any (c 6).1 (c 6).2 _ U.ac (kR6 k U) _ O6.out HN.out.2.2.2.2.2.2 (by omega) (by omega)).mono ?_
  rintro e w17 ⟨rfl, ht, ho⟩
  rw [show kR6 k U + (posRa U.ac U.ac.length : Int) = kR7 k U from rfl]
  replace HT : Hid (Touch lo hi w w17) := HT.out.trans (ht.wide (HSG.out 6 (by decide)).1 (HSG.out 6 (by decide)).2)
  replace F := hide (F.out.tch ht (Nat.le_trans (HSG.out 6 (by decide)).2 hhi))
  replace O0 := hide (O0.out.touch ht (HAP.out 0 6 (by decide) (by decide) (by decide)))
  replace O1 := hide (O1.out.touch ht (HAP.out 1 6 (by decide) (by decide) (by decide)))
  replace O2 := hide (O2.out.touch ht (HAP.out 2 6 (by decide) (by decide) (by decide)))
  replace O3 := hide (O3.out.touch ht (HAP.out 3 6 (by decide) (by decide) (by decide)))
  replace O4 := hide (O4.out.touch ht (HAP.out 4 6 (by decide) (by decide) (by decide)))
  replace O5 := hide (O5.out.touch ht (HAP.out 5 6 (by decide) (by decide) (by decide)))
  clear O6 ht
  have O6 := hide ho
  clear ho
  go_wp2
  go_ret
  exact ⟨rfl, HT.out, a0, k0, a1, k1, a2, k2, a3, k3, a4, k4, a5, k5, a6, k6, c, by rw [mkRr_L]; exact HCS.out, ⟨HSG.out, HAP.out, by have := O0.out; simp only [mkRr, mkRss_len]; exact this, by have := O1.out; simp only [mkRr, mkRss_len]; exact this, by have := O2.out; simp only [mkRr, mkRms_len]; exact this, by have := O3.out; simp only [mkRr, tmarks_len]; exact this, by have := O4.out; simp only [mkRr, imarks_len]; exact this, by have := O5.out; simp only [mkRr, mkRss_len]; exact this, by have := O6.out; simp only [mkRr, mkRas_len]; exact this⟩⟩
end Go.Proofs.Ytlednecohppljaa
