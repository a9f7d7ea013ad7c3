import Derived.Test.YtfbfgljkiikabaaV38
import Derived.Test.YtfbfgljkiikabaaV49
namespace Go.Proofs.Ytfbfgljkiikabaa
open Go.RowKit Go.Deep

theorem txA_get {L : List ByteArray} {i : Nat} (h : i < L.length) : txA L i = L[i] := by unfold txA; simp [List.getD, List.getElem?_eq_getElem h]
theorem hasT_is (L : List ByteArray) (x : ByteArray) : hasT L L.length x = L.any (fun s => s.toList == x.toList) := by
  unfold hasT
  cases h : L.any (fun s => s.toList == x.toList) with
  | true =>
    rw [List.any_eq_true] at h
    obtain ⟨s, hs, he⟩ := h
    obtain ⟨i, hi, rfl⟩ := List.mem_iff_getElem.1 hs
    rw [range_not hi (by rw [txA_get hi, he]; rfl)]
    rfl
  | false =>
    rw [List.any_eq_false] at h
    rw [range_all (fun i hi => by rw [txA_get hi]; have := h L[i] (List.getElem_mem hi); simpa using this)]
    rfl
def wishBI (U : Rr) (tx : ByteArray) : Bool := inB 1 160 (tx.size : Int) && (decide ((U.wi.length : Int) < 20) && (!(U.wi.any (fun s => s.toList == tx.toList)) && !txSl (U.dk.sl.take U.dk.kn.toNat) tx))
def wishI (U : Rr) (tx : ByteArray) : Rr := if wishBI U tx then { U with wi := U.wi ++ [tx] } else U
/-- two boxes' cells -/
def H2 (β γ i : Nat) (v u : Value) (W : World) : Prop := W.cell? ⟨β, 0, none⟩ = some v ∧ W.cell? ⟨γ, i, none⟩ = some u
end Go.Proofs.Ytfbfgljkiikabaa
namespace Go.Proofs.Ytfbfgljkiikabaa
open Go.RowKit Go.Deep

set_option maxHeartbeats 1000000 in
theorem heldRdO_any (lo hi : Nat) (a : Option Addr) (m : Nat) (D : Rd) (k : Int) (w : World) (h : RssOwn lo hi w (.slice a D.sl.length m) (mkRss k D.sl)) (hn : RdSmall D) (h0 : 0 ≤ k) (hk : k ≤ 2000000000000000000) :
    Calls Try.prog 51 #[.agg #[.int .i64 D.pr, .int .i64 D.kn, .slice a D.sl.length m], .int .i64 k] w fun e w' => e = .returned (.int .i64 (k + (posRs D.sl D.sl.length : Int))) ∧ Below w.heap.size w w' := by
  have H := hide h
  clear h
  have HO : ∀ o, Hid (Below w.heap.size w (w.alloc o)) := fun o => one_al w o
  go_enter Try.func51, Try.ntmps51
  go_wp2_with fail
  refine (heldRss_any lo hi _ D.sl k _ (H.out.below (HO _).out) hn h0 hk).mono ?_
  rintro e w1 ⟨rfl, hb⟩
  have HB := hide (bt (HO _).out hb)
  clear hb
  obtain ⟨q, hq⟩ : ∃ q : Int, q = k + (posRs D.sl D.sl.length : Int) := ⟨_, rfl⟩
  rw [← hq]
  have hq0 : ¬ q < 0 := by omega
  have HQ := hide hq
  clear hq
  go_wp2
  go_ret
  exact ⟨ret_int HQ.out, HB.out⟩

set_option maxRecDepth 20000 in
set_option maxHeartbeats 8000000 in
theorem heldRr_any (lo hi : Nat) (cs : List Value) (U : Rr) (k : Int) (w : World) (h : RrOwn lo hi w cs (mkRr k U)) (_hhi : hi ≤ w.heap.size) (hn : RrSmall U) (h0 : 0 ≤ k) (hk : k ≤ 1000000000000000) :
    Calls Try.prog 14 #[.agg cs.toArray, .int .i64 k] w fun e w' => e = .returned (.int .i64 (kR7 k U)) ∧ Below w.heap.size w w' := by
  have HN := hide hn
  obtain ⟨b1, b2, b3, b4, b5, b6, b7⟩ := kR_bd hn h0 hk
  have w3 := hn.2.2.2.1
  have w4 := hn.2.2.2.2.1
  unfold RtsSmall at w3
  unfold RisSmall at w4
  obtain ⟨a0, k0, a1, k1, a2, k2, a3, k3, a4, k4, a5, k5, a6, k6, c, hcs, h⟩ := h
  rw [mkRr_L] at hcs
  have c3 : cs[3]? = some (.int .i64 U.sf.pr) := by rw [hcs]; rfl
  have c4 : cs[4]? = some (.int .i64 U.sf.kn) := by rw [hcs]; rfl
  have c5 : cs[5]? = some (.slice a0 U.sf.sl.length k0) := by rw [hcs]; rfl
  have c6 : cs[6]? = some (.int .i64 U.dk.pr) := by rw [hcs]; rfl
  have c7 : cs[7]? = some (.int .i64 U.dk.kn) := by rw [hcs]; rfl
  have c8 : cs[8]? = some (.slice a1 U.dk.sl.length k1) := by rw [hcs]; rfl
  have c9 : cs[9]? = some (.slice a2 U.he.length k2) := by rw [hcs]; rfl
  have c10 : cs[10]? = some (.slice a3 U.wi.length k3) := by rw [hcs]; rfl
  have c14 : cs[14]? = some (.slice a4 U.ye.length k4) := by rw [hcs]; rfl
  have c15 : cs[15]? = some (.slice a5 U.be.length k5) := by rw [hcs]; rfl
  have c16 : cs[16]? = some (.slice a6 U.ac.length k6) := by rw [hcs]; rfl
  have O0 : Hid (RssOwn (c 0).1 (c 0).2 w (.slice a0 U.sf.sl.length k0) (mkRss (kR0 k U) U.sf.sl)) := by have := h.o0; simp only [mkRr, mkRss_len] at this; exact this
  have O1 : Hid (RssOwn (c 1).1 (c 1).2 w (.slice a1 U.dk.sl.length k1) (mkRss (kR1 k U) U.dk.sl)) := by have := h.o1; simp only [mkRr, mkRss_len] at this; exact this
  have O2 : Hid (RmsOwn (c 2).1 (c 2).2 w (.slice a2 U.he.length k2) (mkRms (kR2 k U) U.he)) := by have := h.o2; simp only [mkRr, mkRms_len] at this; exact this
  have O3 : Hid (RtsOwn (c 3).1 (c 3).2 w (.slice a3 U.wi.length k3) (tmarks (kR3 k U) U.wi.length)) := by have := h.o3; simp only [mkRr, tmarks_len] at this; exact this
  have O4 : Hid (RisOwn (c 4).1 (c 4).2 w (.slice a4 U.ye.length k4) (imarks (kR4 k U) U.ye.length)) := by have := h.o4; simp only [mkRr, imarks_len] at this; exact this
  have O5 : Hid (RssOwn (c 5).1 (c 5).2 w (.slice a5 U.be.length k5) (mkRss (kR5 k U) U.be)) := by have := h.o5; simp only [mkRr, mkRss_len] at this; exact this
  have O6 : Hid (RasOwn (c 6).1 (c 6).2 w (.slice a6 U.ac.length k6) (mkRas (kR6 k U) U.ac)) := by have := h.o6; simp only [mkRr, mkRas_len] at this; exact this
  clear h hcs hn
  go_enter Try.func14, Try.ntmps14
  go_wp2_with fail
  generalize hWa : w.alloc _ = Wa
  have HB : Hid (Below w.heap.size w Wa) := by unfold Hid; rw [← hWa]; exact (one_al w _)
  have F : Hid (Box Wa w.heap.size cs.toArray) := by unfold Hid; rw [← hWa]; exact (Box.new _ _ _ _ rfl)
  clear hWa
  replace O0 := hide (O0.out.below HB.out)
  replace O1 := hide (O1.out.below HB.out)
  replace O2 := hide (O2.out.below HB.out)
  replace O3 := hide (O3.out.below HB.out)
  replace O4 := hide (O4.out.below HB.out)
  replace O5 := hide (O5.out.below HB.out)
  replace O6 := hide (O6.out.below HB.out)
  refine (heldRdO_any (c 0).1 (c 0).2 a0 k0 U.sf (kR0 k U) _ O0.out HN.out.1 (show (0 : Int) ≤ kR0 k U from h0) (show kR0 k U ≤ 2000000000000000000 from Int.le_trans hk (by decide))).mono ?_
  rintro e w11 ⟨rfl, hb⟩
  rw [show kR0 k U + (posRs U.sf.sl U.sf.sl.length : Int) = kR1 k U from rfl]
  replace HB : Hid (Below w.heap.size w w11) := bt HB.out hb
  replace F := hide (F.out.on hb)
  replace O1 := hide (O1.out.below hb)
  replace O2 := hide (O2.out.below hb)
  replace O3 := hide (O3.out.below hb)
  replace O4 := hide (O4.out.below hb)
  replace O5 := hide (O5.out.below hb)
  replace O6 := hide (O6.out.below hb)
  clear hb
  have z1 : ¬ kR1 k U < 0 := by omega
  have g6 : w11.cell? ⟨w.heap.size, 6, none⟩ = some (.int .i64 U.dk.pr) := by rw [F.out.cell 6, List.getElem?_toArray]; exact c6
  have g7 : w11.cell? ⟨w.heap.size, 7, none⟩ = some (.int .i64 U.dk.kn) := by rw [F.out.cell 7, List.getElem?_toArray]; exact c7
  have g8 : w11.cell? ⟨w.heap.size, 8, none⟩ = some (.slice a1 U.dk.sl.length k1) := by rw [F.out.cell 8, List.getElem?_toArray]; exact c8
  go_wp2_with fail
  clear g6 g7 g8
  refine (heldRdO_any (c 1).1 (c 1).2 a1 k1 U.dk (kR1 k U) _ O1.out HN.out.2.1 (by omega) (by omega)).mono ?_
  rintro e w12 ⟨rfl, hb⟩
  rw [show kR1 k U + (posRs U.dk.sl U.dk.sl.length : Int) = kR2 k U from rfl]
  replace HB : Hid (Below w.heap.size w w12) := bt HB.out hb
  replace F := hide (F.out.on hb)
  replace O2 := hide (O2.out.below hb)
  replace O3 := hide (O3.out.below hb)
  replace O4 := hide (O4.out.below hb)
  replace O5 := hide (O5.out.below hb)
  replace O6 := hide (O6.out.below hb)
  clear hb
  have z2 : ¬ kR2 k U < 0 := by omega
  have g9 : w12.cell? ⟨w.heap.size, 9, none⟩ = some (.slice a2 U.he.length k2) := by rw [F.out.cell 9, List.getElem?_toArray]; exact c9
  go_wp2_with fail
  clear g9
  refine (heldRms_any (c 2).1 (c 2).2 _ U.he (kR2 k U) _ O2.out HN.out.2.2.1 (by omega) (by omega)).mono ?_
  rintro e w13 ⟨rfl, hb⟩
  rw [show kR2 k U + (posRm U.he U.he.length : Int) = kR3 k U from rfl]
  replace HB : Hid (Below w.heap.size w w13) := bt HB.out hb
  replace F := hide (F.out.on hb)
  replace O3 := hide (O3.out.below hb)
  replace O4 := hide (O4.out.below hb)
  replace O5 := hide (O5.out.below hb)
  replace O6 := hide (O6.out.below hb)
  clear hb
  have z3 : ¬ kR3 k U < 0 := by omega
  have g10 : w13.cell? ⟨w.heap.size, 10, none⟩ = some (.slice a3 U.wi.length k3) := by rw [F.out.cell 10, List.getElem?_toArray]; exact c10
  go_wp2_with fail
  clear g10
  refine (heldRts_any _ _ U.wi.length (kR3 k U) _ O3.out.at (by omega) (by omega)).mono ?_
  rintro e w14 ⟨rfl, hb⟩
  rw [show kR3 k U + (U.wi.length : Int) = kR4 k U from rfl]
  replace HB : Hid (Below w.heap.size w w14) := bt HB.out hb
  replace F := hide (F.out.on hb)
  replace O4 := hide (O4.out.below hb)
  replace O5 := hide (O5.out.below hb)
  replace O6 := hide (O6.out.below hb)
  clear hb
  have z4 : ¬ kR4 k U < 0 := by omega
  have g14 : w14.cell? ⟨w.heap.size, 14, none⟩ = some (.slice a4 U.ye.length k4) := by rw [F.out.cell 14, List.getElem?_toArray]; exact c14
  go_wp2_with fail
  clear g14
  refine (heldRis_any _ _ U.ye.length (kR4 k U) _ O4.out.at (by omega) (by omega)).mono ?_
  rintro e w15 ⟨rfl, hb⟩
  rw [show kR4 k U + (U.ye.length : Int) = kR5 k U from rfl]
  replace HB : Hid (Below w.heap.size w w15) := bt HB.out hb
  replace F := hide (F.out.on hb)
  replace O5 := hide (O5.out.below hb)
  replace O6 := hide (O6.out.below hb)
  clear hb
  have z5 : ¬ kR5 k U < 0 := by omega
  have g15 : w15.cell? ⟨w.heap.size, 15, none⟩ = some (.slice a5 U.be.length k5) := by rw [F.out.cell 15, List.getElem?_toArray]; exact c15
  go_wp2_with fail
  clear g15
  refine (heldRss_any (c 5).1 (c 5).2 _ U.be (kR5 k U) _ O5.out HN.out.2.2.2.2.2.1 (by omega) (by omega)).mono ?_
  rintro e w16 ⟨rfl, hb⟩
  rw [show kR5 k U + (posRs U.be U.be.length : Int) = kR6 k U from rfl]
  replace HB : Hid (Below w.heap.size w w16) := bt HB.out hb
  replace F := hide (F.out.on hb)
  replace O6 := hide (O6.out.below hb)
  clear hb
  have z6 : ¬ kR6 k U < 0 := by omega
  have g16 : w16.cell? ⟨w.heap.size, 16, none⟩ = some (.slice a6 U.ac.length k6) := by rw [F.out.cell 16, List.getElem?_toArray]; exact c16
  go_wp2_with fail
  clear g16
  refine (heldRas_any (c 6).1 (c 6).2 _ U.ac (kR6 k U) _ O6.out HN.out.2.2.2.2.2.2 (by omega) (by omega)).mono ?_
  rintro e w17 ⟨rfl, hb⟩
  rw [show kR6 k U + (posRa U.ac U.ac.length : Int) = kR7 k U from rfl]
  replace HB : Hid (Below w.heap.size w w17) := bt HB.out hb
  replace F := hide (F.out.on hb)
  clear hb
  have z7 : ¬ kR7 k U < 0 := by omega
  go_wp2
  go_ret
  exact ⟨rfl, HB.out⟩
end Go.Proofs.Ytfbfgljkiikabaa
