import Derived.Test.YtfbfgljkiikabaaGreatV37
namespace Go.Proofs.YtfbfgljkiikabaaGreat
open Go.RowKit Go.Deep

set_option maxHeartbeats 1000000 in
theorem markRdO_any (lo hi : Nat) (a : Option Addr) (m : Nat) (D : Rd) (k : Int) (w : World) (h : RssOwn lo hi w (.slice a D.sl.length m) D.sl) (hn : RdSmall D) (h0 : 0 ≤ k) (hk : k ≤ 2000000000000000000) :
    Calls Tryz.prog 50 #[.agg #[.int .i64 D.pr, .int .i64 D.kn, .slice a D.sl.length m], .int .i64 k] w fun e w' => e = .returned (.int .i64 (k + (posRs D.sl D.sl.length : Int))) ∧ Touch lo hi w w' ∧ RssOwn lo hi w' (.slice a D.sl.length m) (mkRss k D.sl) := by
  have H := hide h
  clear h
  have HO : ∀ o, Hid (Below w.heap.size w (w.alloc o)) := fun o => one_al w o
  go_enter Tryz.func50, Tryz.ntmps50
  go_wp2_with fail
  refine (markRss_any lo hi _ D.sl k _ (H.out.below (HO _).out) hn h0 hk).mono ?_
  rintro e w1 ⟨rfl, ht, ho⟩
  have HT := hide ((Touch.below (HO _).out).trans ht)
  have HW := hide ho
  clear ht ho
  go_wp2
  go_ret
  exact ⟨rfl, HT.out, HW.out⟩

set_option maxRecDepth 20000 in
set_option maxHeartbeats 8000000 in
theorem markRr_any (lo hi : Nat) (cs : List Value) (U : Rr) (k : Int) (w : World) (h : RrOwn lo hi w cs U) (hhi : hi ≤ w.heap.size) (hn : RrSmall U) (h0 : 0 ≤ k) (hk : k ≤ 1000000000000000) :
    Calls Tryz.prog 14 #[.agg cs.toArray, .int .i64 k] w fun e w' => e = .returned (.int .i64 (kR7 k U)) ∧ Touch lo hi w w' ∧ RrOwn lo hi w' cs (mkRr k U) := by
  have HN := hide hn
  obtain ⟨b1, b2, b3, b4, b5, b6, b7⟩ := kR_bd hn h0 hk
  have w3 := hn.2.2.2.1
  have w4 := hn.2.2.2.2.1
  unfold RtsSmall at w3
  unfold RisSmall at w4
  obtain ⟨a0, k0, a1, k1, a2, k2, a3, k3, a4, k4, a5, k5, a6, k6, c, hcs, h⟩ := h
  have c3 : cs[3]? = some (.int .i64 U.sf.pr) := by rw [hcs]; rfl
  have c4 : cs[4]? = some (.int .i64 U.sf.kn) := by rw [hcs]; rfl
  have c5 : cs[5]? = some (.slice a0 U.sf.sl.length k0) := by rw [hcs]; rfl
  have c6 : cs[6]? = some (.int .i64 U.dk.pr) := by rw [hcs]; rfl
  have c7 : cs[7]? = some (.int .i64 U.dk.kn) := by rw [hcs]; rfl
  have c8 : cs[8]? = some (.slice a1 U.dk.sl.length k1) := by rw [hcs]; rfl
  have c9 : cs[9]? = some (.slice a2 U.he.length k2) := by rw [hcs]; rfl
  have c10 : cs[10]? = some (.slice a3 U.wi.length k3) := by rw [hcs]; rfl
  have c14 : cs[14]? = some (.slice a4 U.ye.length k4) := by rw [hcs]; rfl
  have c15 : cs[15]? = some (.slice a5 U.be.length k5) := by rw [hcs]; rfl
  have c16 : cs[16]? = some (.slice a6 U.ac.length k6) := by rw [hcs]; rfl
  have HCS := hide hcs
  have HSG := hide h.seg
  have HAP := hide h.ap
  have O0 := hide h.o0
  have O1 := hide h.o1
  have O2 := hide h.o2
  have O3 := hide h.o3
  have O4 := hide h.o4
  have O5 := hide h.o5
  have O6 := hide h.o6
  clear h hcs hn
  go_enter Tryz.func14, Tryz.ntmps14
  go_wp2_with fail
  generalize hWa : w.alloc _ = Wa
  have HB : Hid (Below w.heap.size w Wa) := by unfold Hid; rw [← hWa]; exact (one_al w _)
  have F : Hid (Box Wa w.heap.size cs.toArray) := by unfold Hid; rw [← hWa]; exact (Box.new _ _ _ _ rfl)
  clear hWa
  have HT : Hid (Touch lo hi w Wa) := Touch.below HB.out
  replace O0 := hide (O0.out.below HB.out)
  replace O1 := hide (O1.out.below HB.out)
  replace O2 := hide (O2.out.below HB.out)
  replace O3 := hide (O3.out.below HB.out)
  replace O4 := hide (O4.out.below HB.out)
  replace O5 := hide (O5.out.below HB.out)
  replace O6 := hide (O6.out.below HB.out)
  refine (markRdO_any (c 0).1 (c 0).2 a0 k0 U.sf (kR0 k U) _ O0.out HN.out.1 (show (0 : Int) ≤ kR0 k U from h0) (show kR0 k U ≤ 2000000000000000000 from Int.le_trans hk (by decide))).mono ?_
  rintro e w11 ⟨rfl, ht, ho⟩
  rw [show kR0 k U + (posRs U.sf.sl U.sf.sl.length : Int) = kR1 k U from rfl]
  replace HT : Hid (Touch lo hi w w11) := HT.out.trans (ht.wide (HSG.out 0 (by decide)).1 (HSG.out 0 (by decide)).2)
  replace F := hide (F.out.tch ht (Nat.le_trans (HSG.out 0 (by decide)).2 hhi))
  replace O1 := hide (O1.out.touch ht (HAP.out 1 0 (by decide) (by decide) (by decide)))
  replace O2 := hide (O2.out.touch ht (HAP.out 2 0 (by decide) (by decide) (by decide)))
  replace O3 := hide (O3.out.touch ht (HAP.out 3 0 (by decide) (by decide) (by decide)))
  replace O4 := hide (O4.out.touch ht (HAP.out 4 0 (by decide) (by decide) (by decide)))
  replace O5 := hide (O5.out.touch ht (HAP.out 5 0 (by decide) (by decide) (by decide)))
  replace O6 := hide (O6.out.touch ht (HAP.out 6 0 (by decide) (by decide) (by decide)))
  clear O0 ht
  have O0 := hide ho
  clear ho
  have g6 : w11.cell? ⟨w.heap.size, 6, none⟩ = some (.int .i64 U.dk.pr) := by rw [F.out.cell 6, List.getElem?_toArray]; exact c6
  have g7 : w11.cell? ⟨w.heap.size, 7, none⟩ = some (.int .i64 U.dk.kn) := by rw [F.out.cell 7, List.getElem?_toArray]; exact c7
  have g8 : w11.cell? ⟨w.heap.size, 8, none⟩ = some (.slice a1 U.dk.sl.length k1) := by rw [F.out.cell 8, List.getElem?_toArray]; exact c8
  go_wp2_with fail
  clear g6 g7 g8
  refine (markRdO_any (c 1).1 (c 1).2 a1 k1 U.dk (kR1 k U) _ O1.out HN.out.2.1 (by omega) (by omega)).mono ?_
  rintro e w12 ⟨rfl, ht, ho⟩
  rw [show kR1 k U + (posRs U.dk.sl U.dk.sl.length : Int) = kR2 k U from rfl]
  replace HT : Hid (Touch lo hi w w12) := HT.out.trans (ht.wide (HSG.out 1 (by decide)).1 (HSG.out 1 (by decide)).2)
  replace F := hide (F.out.tch ht (Nat.le_trans (HSG.out 1 (by decide)).2 hhi))
  replace O0 := hide (O0.out.touch ht (HAP.out 0 1 (by decide) (by decide) (by decide)))
  replace O2 := hide (O2.out.touch ht (HAP.out 2 1 (by decide) (by decide) (by decide)))
  replace O3 := hide (O3.out.touch ht (HAP.out 3 1 (by decide) (by decide) (by decide)))
  replace O4 := hide (O4.out.touch ht (HAP.out 4 1 (by decide) (by decide) (by decide)))
  replace O5 := hide (O5.out.touch ht (HAP.out 5 1 (by decide) (by decide) (by decide)))
  replace O6 := hide (O6.out.touch ht (HAP.out 6 1 (by decide) (by decide) (by decide)))
  clear O1 ht
  have O1 := hide ho
  clear ho
  have g9 : w12.cell? ⟨w.heap.size, 9, none⟩ = some (.slice a2 U.he.length k2) := by rw [F.out.cell 9, List.getElem?_toArray]; exact c9
  go_wp2_with fail
  clear g9
  refine (markRms_any (c 2).1 (c 2).2 _ U.he (kR2 k U) _ O2.out HN.out.2.2.1 (by omega) (by omega)).mono ?_
  rintro e w13 ⟨rfl, ht, ho⟩
  rw [show kR2 k U + (posRm U.he U.he.length : Int) = kR3 k U from rfl]
  replace HT : Hid (Touch lo hi w w13) := HT.out.trans (ht.wide (HSG.out 2 (by decide)).1 (HSG.out 2 (by decide)).2)
  replace F := hide (F.out.tch ht (Nat.le_trans (HSG.out 2 (by decide)).2 hhi))
  replace O0 := hide (O0.out.touch ht (HAP.out 0 2 (by decide) (by decide) (by decide)))
  replace O1 := hide (O1.out.touch ht (HAP.out 1 2 (by decide) (by decide) (by decide)))
  replace O3 := hide (O3.out.touch ht (HAP.out 3 2 (by decide) (by decide) (by decide)))
  replace O4 := hide (O4.out.touch ht (HAP.out 4 2 (by decide) (by decide) (by decide)))
  replace O5 := hide (O5.out.touch ht (HAP.out 5 2 (by decide) (by decide) (by decide)))
  replace O6 := hide (O6.out.touch ht (HAP.out 6 2 (by decide) (by decide) (by decide)))
  clear O2 ht
  have O2 := hide ho
  clear ho
  have g10 : w13.cell? ⟨w.heap.size, 10, none⟩ = some (.slice a3 U.wi.length k3) := by rw [F.out.cell 10, List.getElem?_toArray]; exact c10
  go_wp2_with fail
  clear g10
  refine (markRts_any (c 3).1 (c 3).2 _ U.wi (kR3 k U) _ O3.out (by omega) (by omega)).mono ?_
  rintro e w14 ⟨rfl, ht, ho⟩
  rw [show kR3 k U + (U.wi.length : Int) = kR4 k U from rfl]
  replace HT : Hid (Touch lo hi w w14) := HT.out.trans (ht.wide (HSG.out 3 (by decide)).1 (HSG.out 3 (by decide)).2)
  replace F := hide (F.out.tch ht (Nat.le_trans (HSG.out 3 (by decide)).2 hhi))
  replace O0 := hide (O0.out.touch ht (HAP.out 0 3 (by decide) (by decide) (by decide)))
  replace O1 := hide (O1.out.touch ht (HAP.out 1 3 (by decide) (by decide) (by decide)))
  replace O2 := hide (O2.out.touch ht (HAP.out 2 3 (by decide) (by decide) (by decide)))
  replace O4 := hide (O4.out.touch ht (HAP.out 4 3 (by decide) (by decide) (by decide)))
  replace O5 := hide (O5.out.touch ht (HAP.out 5 3 (by decide) (by decide) (by decide)))
  replace O6 := hide (O6.out.touch ht (HAP.out 6 3 (by decide) (by decide) (by decide)))
  clear O3 ht
  have O3 := hide ho
  clear ho
  have g14 : w14.cell? ⟨w.heap.size, 14, none⟩ = some (.slice a4 U.ye.length k4) := by rw [F.out.cell 14, List.getElem?_toArray]; exact c14
  go_wp2_with fail
  clear g14
  refine (markRis_any (c 4).1 (c 4).2 _ U.ye (kR4 k U) _ O4.out (by omega) (by omega)).mono ?_
  rintro e w15 ⟨rfl, ht, ho⟩
  rw [show kR4 k U + (U.ye.length : Int) = kR5 k U from rfl]
  replace HT : Hid (Touch lo hi w w15) := HT.out.trans (ht.wide (HSG.out 4 (by decide)).1 (HSG.out 4 (by decide)).2)
  replace F := hide (F.out.tch ht (Nat.le_trans (HSG.out 4 (by decide)).2 hhi))
  replace O0 := hide (O0.out.touch ht (HAP.out 0 4 (by decide) (by decide) (by decide)))
  replace O1 := hide (O1.out.touch ht (HAP.out 1 4 (by decide) (by decide) (by decide)))
  replace O2 := hide (O2.out.touch ht (HAP.out 2 4 (by decide) (by decide) (by decide)))
  replace O3 := hide (O3.out.touch ht (HAP.out 3 4 (by decide) (by decide) (by decide)))
  replace O5 := hide (O5.out.touch ht (HAP.out 5 4 (by decide) (by decide) (by decide)))
  replace O6 := hide (O6.out.touch ht (HAP.out 6 4 (by decide) (by decide) (by decide)))
  clear O4 ht
  have O4 := hide ho
  clear ho
  have g15 : w15.cell? ⟨w.heap.size, 15, none⟩ = some (.slice a5 U.be.length k5) := by rw [F.out.cell 15, List.getElem?_toArray]; exact c15
  go_wp2_with fail
  clear g15
  refine (markRss_any (c 5).1 (c 5).2 _ U.be (kR5 k U) _ O5.out HN.out.2.2.2.2.2.1 (by omega) (by omega)).mono ?_
  rintro e w16 ⟨rfl, ht, ho⟩
  rw [show kR5 k U + (posRs U.be U.be.length : Int) = kR6 k U from rfl]
  replace HT : Hid (Touch lo hi w w16) := HT.out.trans (ht.wide (HSG.out 5 (by decide)).1 (HSG.out 5 (by decide)).2)
  replace F := hide (F.out.tch ht (Nat.le_trans (HSG.out 5 (by decide)).2 hhi))
  replace O0 := hide (O0.out.touch ht (HAP.out 0 5 (by decide) (by decide) (by decide)))
  replace O1 := hide (O1.out.touch ht (HAP.out 1 5 (by decide) (by decide) (by decide)))
  replace O2 := hide (O2.out.touch ht (HAP.out 2 5 (by decide) (by decide) (by decide)))
  replace O3 := hide (O3.out.touch ht (HAP.out 3 5 (by decide) (by decide) (by decide)))
  replace O4 := hide (O4.out.touch ht (HAP.out 4 5 (by decide) (by decide) (by decide)))
  replace O6 := hide (O6.out.touch ht (HAP.out 6 5 (by decide) (by decide) (by decide)))
  clear O5 ht
  have O5 := hide ho
  clear ho
  have g16 : w16.cell? ⟨w.heap.size, 16, none⟩ = some (.slice a6 U.ac.length k6) := by rw [F.out.cell 16, List.getElem?_toArray]; exact c16
  go_wp2_with fail
  clear g16
  refine (markRas_any (c 6).1 (c 6).2 _ U.ac (kR6 k U) _ O6.out HN.out.2.2.2.2.2.2 (by omega) (by omega)).mono ?_
  rintro e w17 ⟨rfl, ht, ho⟩
  rw [show kR6 k U + (posRa U.ac U.ac.length : Int) = kR7 k U from rfl]
  replace HT : Hid (Touch lo hi w w17) := HT.out.trans (ht.wide (HSG.out 6 (by decide)).1 (HSG.out 6 (by decide)).2)
  replace F := hide (F.out.tch ht (Nat.le_trans (HSG.out 6 (by decide)).2 hhi))
  replace O0 := hide (O0.out.touch ht (HAP.out 0 6 (by decide) (by decide) (by decide)))
  replace O1 := hide (O1.out.touch ht (HAP.out 1 6 (by decide) (by decide) (by decide)))
  replace O2 := hide (O2.out.touch ht (HAP.out 2 6 (by decide) (by decide) (by decide)))
  replace O3 := hide (O3.out.touch ht (HAP.out 3 6 (by decide) (by decide) (by decide)))
  replace O4 := hide (O4.out.touch ht (HAP.out 4 6 (by decide) (by decide) (by decide)))
  replace O5 := hide (O5.out.touch ht (HAP.out 5 6 (by decide) (by decide) (by decide)))
  clear O6 ht
  have O6 := hide ho
  clear ho
  go_wp2
  go_ret
  exact ⟨rfl, HT.out, a0, k0, a1, k1, a2, k2, a3, k3, a4, k4, a5, k5, a6, k6, c, by rw [mkRr_L]; exact HCS.out, ⟨HSG.out, HAP.out, by have := O0.out; simp only [mkRr, mkRss_len]; exact this, by have := O1.out; simp only [mkRr, mkRss_len]; exact this, by have := O2.out; simp only [mkRr, mkRms_len]; exact this, by have := O3.out; simp only [mkRr, tmarks_len]; exact this, by have := O4.out; simp only [mkRr, imarks_len]; exact this, by have := O5.out; simp only [mkRr, mkRss_len]; exact this, by have := O6.out; simp only [mkRr, mkRas_len]; exact this⟩⟩
end Go.Proofs.YtfbfgljkiikabaaGreat
namespace Go.Proofs.YtfbfgljkiikabaaGreat
open Go.RowKit Go.Deep

set_option maxRecDepth 20000 in
set_option maxHeartbeats 8000000 in
theorem eachMsg_any (lo : Nat) (v : Value) (Xl : List Rm) (w : World) (hv : RmsAt lo w v Xl) (hn : RmsSmall Xl) :
    Calls Tryz.prog 102 #[v, .func (.func 103) #[] #[]] w fun e w' => ∃ v' L, e = .returned v' ∧ Below w.heap.size w w' ∧ NGRow PM mxL 8 w' w.heap.size w'.heap.size v' L ∧ L.map (·.1) = Xl := by
  have hnil := fun W a n c => Lib.run_eql_slice_nil (P := Tryz.prog) W 38 45 a n c 0 0 Tryz.underlying38
  obtain ⟨i0, hi, hz0, hz1, hz2⟩ := info_parts Rm_info
  have HSM := hide hn.2
  have hn1 := hn.1
  clear hn
  have hmk : ∀ u : World, (Instr.makeSlice 38 (.int .i64 (Xl.length : Int)) (.int .i64 (Xl.length : Int))).run Tryz.prog u = .ok (.slice (some ⟨u.heap.size, 0, none⟩) Xl.length Xl.length) (u.alloc (.cells (madeCells (Value.cells (.agg #[.int .i64 0, .int .i64 0, .int .i64 0, .int .i64 0, .int .i64 0, .int .i64 0, .string ⟨#[]⟩, .slice none 0 0])) (Xl.length * 8)) 45)) := fun u => by
    have h := run_make (P := Tryz.prog) u 38 45 i0 _ Tryz.underlying38 hi hz0 .i64 .i64 Xl.length Xl.length (by omega) (by omega) (by rw [hz2]; omega) (by omega)
    rw [hz1] at h
    simpa using h
  clear hi hz0 hz1 hz2
  have HV := hide hv
  obtain ⟨a, cap, rfl⟩ := hv.form
  clear hv
  cases a with
  | none =>
    have h0 : Xl.length = 0 := by
      rcases HV.out with ⟨_, _, _, rfl⟩ | ⟨_, _, _, h1, _⟩
      · rfl
      · injection h1 with e; cases e
    obtain rfl := List.eq_nil_of_length_eq_zero h0
    go_enter Tryz.func102, Tryz.ntmps102
    go_wp2
    go_ret
    exact ⟨_, [], rfl, Below.refl _ _, Or.inl ⟨rfl, rfl⟩, rfl⟩
  | some ad =>
  go_enter Tryz.func102, Tryz.ntmps102
  go_wp2
  clear hmk hnil
  go_loopw [15] (fun i wr => ∃ (k : Nat) (L : List MX) (c : Nat → Nat × Nat), i = .int .i64 k ∧ k ≤ Xl.length ∧ Below w.heap.size w wr ∧ FR mxL 8 wr w.heap.size (w.heap.size + 1) w.heap.size Xl.length L ∧ Inns PM wr w.heap.size wr.heap.size w.heap.size L c ∧ (∀ i, i < L.length → (c i).2 ≤ wr.heap.size) ∧ L.map (·.1) = Xl.take k) (fun i _ => Xl.length - (intOf i).toNat)
  case atStart => exact ⟨0, [], fun _ => (0, 0), rfl, by omega, one_al _ _, fr_new mxL 8 w _ _ Xl.length (by rw [size_madeCells]) (by unfold maxLen; omega), ⟨fun i hi => by simp at hi, fun i j hi => by simp at hi, fun i hi => by simp at hi⟩, fun i hi => by simp at hi, by simp⟩
  case round =>
    obtain ⟨k, L, c, rfl, hk, hb, hf, hin, htop, hL⟩ := hrel
    have HB := hide hb
    have HF := hide hf
    have HI := hide hin
    have HTP := hide htop
    have HL := hide hL
    have HLl : Hid (L.length = k) := by
      unfold Hid
      have := congrArg List.length hL
      rw [List.length_map, List.length_take] at this
      omega
    clear hb hf hin hL htop
    by_cases hlt : k < Xl.length
    · obtain ⟨b, off, had, hbw, -, hc⟩ := HV.out.full' (by omega)
      injection had with had
      subst had
      obtain ⟨m, hm'⟩ : ∃ m, m = Xl[k] := ⟨_, rfl⟩
      obtain ⟨ms, hr, b0, m0, rfl, hf⟩ := hc k hlt
      rw [← hm'] at hf hr
      have HS : Hid (m.sl.length ≤ 1048576) := by unfold Hid; rw [hm']; exact (HSM.out k hlt).1
      have HFi : Hid (RssAt lo wr (.slice b0 m.sl.length m0) m.sl) := hf.l0.below HB.out
      have HR := rng_below hr HB.out hbw
      have HX := hide hm'
      have s0 : wr.cell? ⟨b, off + k * 8, none⟩ = some (.int .i64 m.kd) := HR 0 _ rfl
      have s1 : wr.cell? ⟨b, off + k * 8 + 1, none⟩ = some (.int .i64 m.fr) := HR 1 _ rfl
      have s2 : wr.cell? ⟨b, off + k * 8 + 2, none⟩ = some (.int .i64 m.tt) := HR 2 _ rfl
      have s3 : wr.cell? ⟨b, off + k * 8 + 3, none⟩ = some (.int .i64 m.ba) := HR 3 _ rfl
      have s4 : wr.cell? ⟨b, off + k * 8 + 4, none⟩ = some (.int .i64 m.ix) := HR 4 _ rfl
      have s5 : wr.cell? ⟨b, off + k * 8 + 5, none⟩ = some (.int .i64 m.kn) := HR 5 _ rfl
      have s6 : wr.cell? ⟨b, off + k * 8 + 6, none⟩ = some (.string m.tx) := HR 6 _ rfl
      have s7 : wr.cell? ⟨b, off + k * 8 + 7, none⟩ = some (.slice b0 m.sl.length m0) := HR 7 _ rfl
      have i0 : (0 : Int) ≤ (k : Int) := by omega
      have i1 : (k : Int) < (Xl.length : Int) := by omega
      clear hc hr hf hm' HR
      go_wp2_with fail
      clear s0 s1 s2 s3 s4 s5 s6 s7
      generalize hWx : wr.alloc _ = Wx
      have hx : Below wr.heap.size wr Wx := by rw [← hWx]; exact one_al _ _
      clear hWx
      refine (copyMsg_any lo m b0 m0 _ (HFi.out.below hx) HS.out).mono ?_
      rintro e w1 ⟨b1, m1, rfl, hb1, hf1⟩
      have hb2 : Below wr.heap.size wr w1 := bt hx hb1
      have HB1 : Hid (Below w.heap.size w w1) := bt HB.out hb2
      have hsz := HB.out.size
      have hsz1 := hb2.size
      have hszx := hx.size
      have hwlt : w.heap.size < wr.heap.size := HF.out.lt
      have HF1 := hide (HF.out.below hb2)
      have HI1 : Hid (Inns PM w1 w.heap.size w1.heap.size w.heap.size (L ++ [(m, b1, m1)]) (cSnoc c L.length (Wx.heap.size, w1.heap.size))) :=
        ((HI.out.below cloM hb2).wide (Nat.le_refl _) hsz1).snoc hf1 (by omega) hb1.size (Nat.le_refl _) (Or.inl (by omega)) (fun i hi => Or.inl (by have := HTP.out i hi; omega))
      have hth : ∀ j, j < Xl.length * 8 → ∃ o, w1.cell? ⟨w.heap.size, j, none⟩ = some o := fun j hj => Option.isSome_iff_exists.1 (HF1.out.th j hj)
      have hfr := HF1.out.fz
      obtain ⟨o0, ho0⟩ := hth (k * 8) (by omega)
      obtain ⟨o1, ho1⟩ := hth (k * 8 + 1) (by omega)
      obtain ⟨o2, ho2⟩ := hth (k * 8 + 2) (by omega)
      obtain ⟨o3, ho3⟩ := hth (k * 8 + 3) (by omega)
      obtain ⟨o4, ho4⟩ := hth (k * 8 + 4) (by omega)
      obtain ⟨o5, ho5⟩ := hth (k * 8 + 5) (by omega)
      obtain ⟨o6, ho6⟩ := hth (k * 8 + 6) (by omega)
      obtain ⟨o7, ho7⟩ := hth (k * 8 + 7) (by omega)
      have HFn : Hid (FR mxL 8 ((((((((w1.setCell ⟨w.heap.size, k * 8, none⟩ (.int .i64 m.kd)).setCell ⟨w.heap.size, k * 8 + 1, none⟩ (.int .i64 m.fr)).setCell ⟨w.heap.size, k * 8 + 2, none⟩ (.int .i64 m.tt)).setCell ⟨w.heap.size, k * 8 + 3, none⟩ (.int .i64 m.ba)).setCell ⟨w.heap.size, k * 8 + 4, none⟩ (.int .i64 m.ix)).setCell ⟨w.heap.size, k * 8 + 5, none⟩ (.int .i64 m.kn)).setCell ⟨w.heap.size, k * 8 + 6, none⟩ (.string m.tx)).setCell ⟨w.heap.size, k * 8 + 7, none⟩ (.slice b1 m.sl.length m1)) w.heap.size (w.heap.size + 1) w.heap.size Xl.length (L ++ [(m, b1, m1)])) := by
        unfold Hid
        have h := HF1.out.put mxL_len (M := [(m, b1, m1)]) (by have := HLl.out; simp; omega)
        rw [Nat.zero_add, HLl.out] at h
        exact h
      have HTT : Hid (Touch w.heap.size (w.heap.size + 1) w1 ((((((((w1.setCell ⟨w.heap.size, k * 8, none⟩ (.int .i64 m.kd)).setCell ⟨w.heap.size, k * 8 + 1, none⟩ (.int .i64 m.fr)).setCell ⟨w.heap.size, k * 8 + 2, none⟩ (.int .i64 m.tt)).setCell ⟨w.heap.size, k * 8 + 3, none⟩ (.int .i64 m.ba)).setCell ⟨w.heap.size, k * 8 + 4, none⟩ (.int .i64 m.ix)).setCell ⟨w.heap.size, k * 8 + 5, none⟩ (.int .i64 m.kn)).setCell ⟨w.heap.size, k * 8 + 6, none⟩ (.string m.tx)).setCell ⟨w.heap.size, k * 8 + 7, none⟩ (.slice b1 m.sl.length m1))) := by
        have h := Touch.sets (lo := w.heap.size) (hi := w.heap.size + 1) (b := w.heap.size) ⟨Nat.le_refl _, Nat.lt_succ_self _⟩ (flatV mxL [(m, b1, m1)]) (k * 8) w1
        exact h
      clear hth hb1 hb2 hf1 hx HF HI HB
      rw [show (rmL m b1 m1).toArray = #[.int .i64 m.kd, .int .i64 m.fr, .int .i64 m.tt, .int .i64 m.ba, .int .i64 m.ix, .int .i64 m.kn, .string m.tx, .slice b1 m.sl.length m1] from rfl]
      go_wp2
      generalize hWn : World.setCell _ _ _ = Wn at *
      clear hWn
      go_roundw
      case rel =>
        have ht := HTT.out
        have hszn := ht.size
        refine ⟨k + 1, L ++ [(m, b1, m1)], _, by go_num, by omega, HB1.out.trans (ht.under (by omega)), HFn.out, ((HI1.out.touch cloM ht (fun i hi => ?_)).wide (Nat.le_refl _) hszn), fun i hi => ?_, by rw [List.map_append, HL.out, List.take_succ_eq_append_getElem hlt, HX.out]; rfl⟩
        · rcases (HI1.out.seg i hi).2.2.2 with h | h
          · exact Or.inr h
          · exact Or.inl h
        · exact Nat.le_trans (HI1.out.seg i hi).2.2.1 hszn
      case measure => simp [intOf]; omega
    · have e : k = Xl.length := by omega
      subst e
      have hl := HLl.out
      go_wp2
      go_ret
      refine ⟨.slice (some ⟨w.heap.size, 0, none⟩) Xl.length Xl.length, L, rfl, HB.out, Or.inr ⟨w.heap.size, c, ⟨w.heap.size, Xl.length, by rw [hl], HF.out⟩, Nat.le_refl _, HF.out.lt, HI.out⟩, by rw [HL.out, List.take_of_length_le (Nat.le_refl _)]⟩
end Go.Proofs.YtfbfgljkiikabaaGreat
