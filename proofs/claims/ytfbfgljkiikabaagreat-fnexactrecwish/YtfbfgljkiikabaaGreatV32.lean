import Derived.Test.YtfbfgljkiikabaaGreatV31
namespace Go.Proofs.YtfbfgljkiikabaaGreat
open Go.RowKit Go.Deep

def wishOkB (U : Rr) (tx : ByteArray) : Bool := !decide ((tx.size : Int) < 1) && (!decide (160 < (tx.size : Int)) && (!decide (20 ≤ (U.wi.length : Int)) && (!hasSl (U.dk.sl.take U.dk.kn.toNat) tx && !(U.wi.any (fun s => s.toList == tx.toList)))))
def wishU (U : Rr) (tx : ByteArray) : Rr := if wishOkB U tx then { U with wi := U.wi ++ [tx] } else U
theorem RssAt.takeR {lo : Nat} {w : World} {a : Option Addr} {cap n : Nat} {L : List Rs} (h : RssAt lo w (.slice a L.length cap) L) (k : Nat) (hn : n = k) (hk : k ≤ L.length) : RssAt lo w (.slice a n cap) (L.take k) := by
  subst hn
  by_cases h0 : n = 0
  · subst h0
    exact Or.inl ⟨a, cap, rfl, rfl⟩
  · have hl : (L.take n).length = n := by simp; omega
    rcases h with ⟨_, _, _, e⟩ | ⟨b, off, c2, h1, h2, h3, h4, h5, h6, h7⟩
    · rw [e] at hk; simp at hk; omega
    · injection h1 with e1 e2 e3
      subst e3
      subst e1
      refine Or.inr ⟨b, off, cap, by rw [hl], by intro e; rw [e] at hl; simp at hl; omega, by omega, h4, h5, by omega, fun i hi => ?_⟩
      rw [List.getElem_take]
      exact h7 i (by omega)
set_option maxRecDepth 20000 in
set_option maxHeartbeats 16000000 in
theorem wishX_any (lo : Nat) (U : Rr) (tx : ByteArray) (b0 : Option Addr) (m0 : Nat) (b1 : Option Addr) (m1 : Nat) (b2 : Option Addr) (m2 : Nat) (b3 : Option Addr) (m3 : Nat) (b4 : Option Addr) (m4 : Nat) (b5 : Option Addr) (m5 : Nat) (b6 : Option Addr) (m6 : Nat) (c : Nat → Nat × Nat) (w : World) (hC : Cpy w lo c (.slice b0 U.sf.sl.length m0) (.slice b1 U.dk.sl.length m1) (.slice b2 U.he.length m2) (.slice b3 U.wi.length m3) (.slice b4 U.ye.length m4) (.slice b5 U.be.length m5) (.slice b6 U.ac.length m6) U) (hz : RrZ U) (hkn : 0 ≤ U.dk.kn ∧ U.dk.kn ≤ (U.dk.sl.length : Int)) (htx : tx.size ≤ maxLen) (hlo : lo ≤ w.heap.size) (hn : U.wi.length ≤ 1048576) :
    Calls Tryz.prog 60 #[.agg (rrL U b0 m0 b1 m1 b2 m2 b3 m3 b4 m4 b5 m5 b6 m6).toArray, .string tx] w fun e w' => ∃ cs', e = .returned (.agg cs'.toArray) ∧ Below lo w w' ∧ RrC lo w' cs' (wishU U tx) := by
  have HC := hide hC
  have HZ := hide hz
  have HLO := hide hlo
  have HTX := hide htx
  unfold maxLen at htx
  obtain ⟨cs, hcs⟩ : ∃ cs, cs = rrL U b0 m0 b1 m1 b2 m2 b3 m3 b4 m4 b5 m5 b6 m6 := ⟨_, rfl⟩
  rw [← hcs]
  have HCS := hide hcs
  have h18 : cs.toArray.size = 18 := by rw [hcs]; rfl
  have HS : Hid ((Tryz.prog.info? 41).map (·.size) = some cs.length) := by unfold Hid; rw [hcs]; exact sizeRr
  have HSA : Hid ((Tryz.prog.info? 41).map (·.size) = some cs.toArray.size) := by unfold Hid; rw [hcs]; exact sizeRr
  have HON : Hid (cs.toArray.all (·.oneCell') = true) := by unfold Hid; rw [hcs]; simp [rrL, Value.oneCell']
  have c7 : cs[7]? = some (.int .i64 U.dk.kn) := by rw [hcs]; rfl
  have c8 : cs[8]? = some (.slice b1 U.dk.sl.length m1) := by rw [hcs]; rfl
  have c10 : cs[10]? = some (.slice b3 U.wi.length m3) := by rw [hcs]; rfl
  have H18 := hide h18
  clear hcs h18 hC hz hlo
  have hw1 := hn
  have r1 : 0 ≤ U.dk.kn := hkn.1
  have HD := hide ((HC.out.at HZ.out).l1)
  have hcap : U.dk.sl.length ≤ m1 := by
    rcases HD.out with ⟨_, _, h1, h2⟩ | ⟨_, _, _, h1, _, _, _, _, h6, _⟩
    · rw [h2]; simp
    · injection h1 with e1 e2 e3
      omega
  have r2 : U.dk.kn ≤ (m1 : Int) := by omega
  have HDT : Hid (RssAt lo w (.slice b1 U.dk.kn.toNat m1) (U.dk.sl.take U.dk.kn.toNat)) := HD.out.takeR _ rfl (by omega)
  have HE : Hid (wishOkB U tx = (!decide ((tx.size : Int) < 1) && (!decide (160 < (tx.size : Int)) && (!decide (20 ≤ (U.wi.length : Int)) && (!hasSl (U.dk.sl.take U.dk.kn.toNat) tx && !(U.wi.any (fun s => s.toList == tx.toList))))))) := rfl
  go_enter Tryz.func60, Tryz.ntmps60
  obtain ⟨wz, hwz, FB, RB, HB⟩ : ∃ wz, wz = (w.alloc (.cells cs.toArray 41)).alloc (.cells #[.int .i64 0, .int .i64 0, .bool false, .int .i64 0, .int .i64 0, .slice none 0 0, .int .i64 0, .int .i64 0, .slice none 0 0, .slice none 0 0, .slice none 0 0, .bool false, .bool false, .int .i64 0, .slice none 0 0, .slice none 0 0, .slice none 0 0, .int .i64 0] 41) ∧ Hid (Box wz w.heap.size cs.toArray) ∧ Hid (Box wz (w.heap.size + 1) #[.int .i64 0, .int .i64 0, .bool false, .int .i64 0, .int .i64 0, .slice none 0 0, .int .i64 0, .int .i64 0, .slice none 0 0, .slice none 0 0, .slice none 0 0, .bool false, .bool false, .int .i64 0, .slice none 0 0, .slice none 0 0, .slice none 0 0, .int .i64 0]) ∧ Hid (Below w.heap.size w wz) :=
    ⟨_, rfl, (Box.new w _ _ _ rfl).on (one_al _ _), Box.new _ _ _ _ (by simp), (one_al _ _).trans ((one_al _ _).mono (by simp))⟩
  have HWZ := hide hwz
  clear hwz
  cases q0 : decide ((tx.size : Int) < 1) with
  | true =>
    have HV : Hid (wishU U tx = U) := by unfold Hid wishU; rw [HE.out, q0]; rfl
    have HRA : Hid (World.rangeAt ((w.alloc (.cells cs.toArray 41)).alloc (.cells #[.int .i64 0, .int .i64 0, .bool false, .int .i64 0, .int .i64 0, .slice none 0 0, .int .i64 0, .int .i64 0, .slice none 0 0, .slice none 0 0, .slice none 0 0, .bool false, .bool false, .int .i64 0, .slice none 0 0, .slice none 0 0, .slice none 0 0, .int .i64 0] 41)) w.heap.size 0 cs) := by unfold Hid; rw [← HWZ.out]; exact FB.out.range rfl
    have HTH : Hid (World.there ((w.alloc (.cells cs.toArray 41)).alloc (.cells #[.int .i64 0, .int .i64 0, .bool false, .int .i64 0, .int .i64 0, .slice none 0 0, .int .i64 0, .int .i64 0, .slice none 0 0, .slice none 0 0, .slice none 0 0, .bool false, .bool false, .int .i64 0, .slice none 0 0, .slice none 0 0, .slice none 0 0, .int .i64 0] 41)) (w.heap.size + 1) 0 cs.toArray.size) := by unfold Hid; rw [H18.out, ← HWZ.out]; exact RB.out.there rfl
    go_wp2_with (first | (with_reducible refine wpList_load_mid (by with_reducible rfl) 41 (.tmp 2) (by with_reducible rfl) w.heap.size 0 (by with_unfolding_all rfl) cs _ HRA.out Tryz.underlying41 (by with_unfolding_all rfl) HS.out ?_) | (with_reducible refine wpList_store_mid (by with_reducible rfl) 41 (.tmp 4) (.tmp 31) (by with_reducible rfl) (w.heap.size + 1) 0 cs.toArray (by with_unfolding_all rfl) (by with_unfolding_all rfl) HTH.out HSA.out HON.out ?_; refine Hid.out ?_))
    rw [← HWZ.out]
    generalize hW : World.setCells _ _ _ _ = W9
    have FR9 : Hid (Box W9 (w.heap.size + 1) cs.toArray) := by unfold Hid; rw [← hW]; exact RB.out.full (by rw [H18.out]; rfl)
    have HB9 : Hid (Below w.heap.size w W9) := by unfold Hid; rw [← hW]; exact Below.sets (by omega) _ _ HB.out
    clear hW
    refine hide ?_
    go_wp2
    exact bodyPost_ret (v := .agg cs.toArray) (res_rr (p := 4) (ty := 41) Tryz.results60 _ _ (w.heap.size + 1) 0 cs _ rfl (FR9.out.range rfl) Tryz.underlying41 rfl HS.out) rfl ⟨cs, rfl, HB9.out.mono HLO.out, by rw [HV.out, HCS.out]; exact ⟨b0, m0, b1, m1, b2, m2, b3, m3, b4, m4, b5, m5, b6, m6, rfl, (HC.out.below HB9.out).at HZ.out⟩⟩
  | false =>
  cases q1 : decide (160 < (tx.size : Int)) with
  | true =>
    have HV : Hid (wishU U tx = U) := by unfold Hid wishU; rw [HE.out, q0, q1]; rfl
    have HRA : Hid (World.rangeAt ((w.alloc (.cells cs.toArray 41)).alloc (.cells #[.int .i64 0, .int .i64 0, .bool false, .int .i64 0, .int .i64 0, .slice none 0 0, .int .i64 0, .int .i64 0, .slice none 0 0, .slice none 0 0, .slice none 0 0, .bool false, .bool false, .int .i64 0, .slice none 0 0, .slice none 0 0, .slice none 0 0, .int .i64 0] 41)) w.heap.size 0 cs) := by unfold Hid; rw [← HWZ.out]; exact FB.out.range rfl
    have HTH : Hid (World.there ((w.alloc (.cells cs.toArray 41)).alloc (.cells #[.int .i64 0, .int .i64 0, .bool false, .int .i64 0, .int .i64 0, .slice none 0 0, .int .i64 0, .int .i64 0, .slice none 0 0, .slice none 0 0, .slice none 0 0, .bool false, .bool false, .int .i64 0, .slice none 0 0, .slice none 0 0, .slice none 0 0, .int .i64 0] 41)) (w.heap.size + 1) 0 cs.toArray.size) := by unfold Hid; rw [H18.out, ← HWZ.out]; exact RB.out.there rfl
    go_wp2_with (first | (with_reducible refine wpList_load_mid (by with_reducible rfl) 41 (.tmp 2) (by with_reducible rfl) w.heap.size 0 (by with_unfolding_all rfl) cs _ HRA.out Tryz.underlying41 (by with_unfolding_all rfl) HS.out ?_) | (with_reducible refine wpList_store_mid (by with_reducible rfl) 41 (.tmp 4) (.tmp 31) (by with_reducible rfl) (w.heap.size + 1) 0 cs.toArray (by with_unfolding_all rfl) (by with_unfolding_all rfl) HTH.out HSA.out HON.out ?_; refine Hid.out ?_))
    rw [← HWZ.out]
    generalize hW : World.setCells _ _ _ _ = W9
    have FR9 : Hid (Box W9 (w.heap.size + 1) cs.toArray) := by unfold Hid; rw [← hW]; exact RB.out.full (by rw [H18.out]; rfl)
    have HB9 : Hid (Below w.heap.size w W9) := by unfold Hid; rw [← hW]; exact Below.sets (by omega) _ _ HB.out
    clear hW
    refine hide ?_
    go_wp2
    exact bodyPost_ret (v := .agg cs.toArray) (res_rr (p := 4) (ty := 41) Tryz.results60 _ _ (w.heap.size + 1) 0 cs _ rfl (FR9.out.range rfl) Tryz.underlying41 rfl HS.out) rfl ⟨cs, rfl, HB9.out.mono HLO.out, by rw [HV.out, HCS.out]; exact ⟨b0, m0, b1, m1, b2, m2, b3, m3, b4, m4, b5, m5, b6, m6, rfl, (HC.out.below HB9.out).at HZ.out⟩⟩
  | false =>
  cases q2 : decide (20 ≤ (U.wi.length : Int)) with
  | true =>
    have HV : Hid (wishU U tx = U) := by unfold Hid wishU; rw [HE.out, q0, q1, q2]; rfl
    have HRA : Hid (World.rangeAt ((w.alloc (.cells cs.toArray 41)).alloc (.cells #[.int .i64 0, .int .i64 0, .bool false, .int .i64 0, .int .i64 0, .slice none 0 0, .int .i64 0, .int .i64 0, .slice none 0 0, .slice none 0 0, .slice none 0 0, .bool false, .bool false, .int .i64 0, .slice none 0 0, .slice none 0 0, .slice none 0 0, .int .i64 0] 41)) w.heap.size 0 cs) := by unfold Hid; rw [← HWZ.out]; exact FB.out.range rfl
    have HTH : Hid (World.there ((w.alloc (.cells cs.toArray 41)).alloc (.cells #[.int .i64 0, .int .i64 0, .bool false, .int .i64 0, .int .i64 0, .slice none 0 0, .int .i64 0, .int .i64 0, .slice none 0 0, .slice none 0 0, .slice none 0 0, .bool false, .bool false, .int .i64 0, .slice none 0 0, .slice none 0 0, .slice none 0 0, .int .i64 0] 41)) (w.heap.size + 1) 0 cs.toArray.size) := by unfold Hid; rw [H18.out, ← HWZ.out]; exact RB.out.there rfl
    go_wp2_with (first | (with_reducible refine wpList_load_mid (by with_reducible rfl) 41 (.tmp 2) (by with_reducible rfl) w.heap.size 0 (by with_unfolding_all rfl) cs _ HRA.out Tryz.underlying41 (by with_unfolding_all rfl) HS.out ?_) | (with_reducible refine wpList_store_mid (by with_reducible rfl) 41 (.tmp 4) (.tmp 31) (by with_reducible rfl) (w.heap.size + 1) 0 cs.toArray (by with_unfolding_all rfl) (by with_unfolding_all rfl) HTH.out HSA.out HON.out ?_; refine Hid.out ?_))
    rw [← HWZ.out]
    generalize hW : World.setCells _ _ _ _ = W9
    have FR9 : Hid (Box W9 (w.heap.size + 1) cs.toArray) := by unfold Hid; rw [← hW]; exact RB.out.full (by rw [H18.out]; rfl)
    have HB9 : Hid (Below w.heap.size w W9) := by unfold Hid; rw [← hW]; exact Below.sets (by omega) _ _ HB.out
    clear hW
    refine hide ?_
    go_wp2
    exact bodyPost_ret (v := .agg cs.toArray) (res_rr (p := 4) (ty := 41) Tryz.results60 _ _ (w.heap.size + 1) 0 cs _ rfl (FR9.out.range rfl) Tryz.underlying41 rfl HS.out) rfl ⟨cs, rfl, HB9.out.mono HLO.out, by rw [HV.out, HCS.out]; exact ⟨b0, m0, b1, m1, b2, m2, b3, m3, b4, m4, b5, m5, b6, m6, rfl, (HC.out.below HB9.out).at HZ.out⟩⟩
  | false =>
  cases q3 : hasSl (U.dk.sl.take U.dk.kn.toNat) tx with
  | true =>
    have HV : Hid (wishU U tx = U) := by unfold Hid wishU; rw [HE.out, q0, q1, q2, q3]; rfl
    have HRA : Hid (World.rangeAt ((w.alloc (.cells cs.toArray 41)).alloc (.cells #[.int .i64 0, .int .i64 0, .bool false, .int .i64 0, .int .i64 0, .slice none 0 0, .int .i64 0, .int .i64 0, .slice none 0 0, .slice none 0 0, .slice none 0 0, .bool false, .bool false, .int .i64 0, .slice none 0 0, .slice none 0 0, .slice none 0 0, .int .i64 0] 41)) w.heap.size 0 cs) := by unfold Hid; rw [← HWZ.out]; exact FB.out.range rfl
    have HTH : Hid (World.there ((w.alloc (.cells cs.toArray 41)).alloc (.cells #[.int .i64 0, .int .i64 0, .bool false, .int .i64 0, .int .i64 0, .slice none 0 0, .int .i64 0, .int .i64 0, .slice none 0 0, .slice none 0 0, .slice none 0 0, .bool false, .bool false, .int .i64 0, .slice none 0 0, .slice none 0 0, .slice none 0 0, .int .i64 0] 41)) (w.heap.size + 1) 0 cs.toArray.size) := by unfold Hid; rw [H18.out, ← HWZ.out]; exact RB.out.there rfl
    go_wp2_with (first | (with_reducible refine wpList_load_mid (by with_reducible rfl) 41 (.tmp 2) (by with_reducible rfl) w.heap.size 0 (by with_unfolding_all rfl) cs _ HRA.out Tryz.underlying41 (by with_unfolding_all rfl) HS.out ?_) | (with_reducible refine wpList_store_mid (by with_reducible rfl) 41 (.tmp 4) (.tmp 31) (by with_reducible rfl) (w.heap.size + 1) 0 cs.toArray (by with_unfolding_all rfl) (by with_unfolding_all rfl) HTH.out HSA.out HON.out ?_; refine Hid.out ?_) | (go_at_call 64; refine (hasF_any lo _ (U.dk.sl.take U.dk.kn.toNat) tx _ (HDT.out.below (by rw [← HWZ.out]; exact HB.out))).mono ?_; rw [q3]; rintro e wq ⟨rfl, rfl⟩))
    rw [← HWZ.out]
    generalize hW : World.setCells _ _ _ _ = W9
    have FR9 : Hid (Box W9 (w.heap.size + 1) cs.toArray) := by unfold Hid; rw [← hW]; exact RB.out.full (by rw [H18.out]; rfl)
    have HB9 : Hid (Below w.heap.size w W9) := by unfold Hid; rw [← hW]; exact Below.sets (by omega) _ _ HB.out
    clear hW
    refine hide ?_
    go_wp2
    exact bodyPost_ret (v := .agg cs.toArray) (res_rr (p := 4) (ty := 41) Tryz.results60 _ _ (w.heap.size + 1) 0 cs _ rfl (FR9.out.range rfl) Tryz.underlying41 rfl HS.out) rfl ⟨cs, rfl, HB9.out.mono HLO.out, by rw [HV.out, HCS.out]; exact ⟨b0, m0, b1, m1, b2, m2, b3, m3, b4, m4, b5, m5, b6, m6, rfl, (HC.out.below HB9.out).at HZ.out⟩⟩
  | false =>
  go_wp2_with (go_at_call 64; refine (hasF_any lo _ (U.dk.sl.take U.dk.kn.toNat) tx _ (HDT.out.below (by rw [← HWZ.out]; exact HB.out))).mono ?_; rw [q3]; rintro e wq ⟨rfl, rfl⟩)
  rw [← HWZ.out]
  clear HWZ
  have HT3 : Hid (RtsAt lo wz (.slice b3 U.wi.length m3) U.wi) := (HC.out.at HZ.out).l3.below HB.out
  have g10 : wz.cell? ⟨w.heap.size, 10, none⟩ = some (.slice b3 U.wi.length m3) := by rw [FB.out.cell 10, List.getElem?_toArray]; exact c10
  have hszz : w.heap.size + 2 ≤ wz.heap.size := by have := RB.out.lt; omega
  clear c7 c8 c10
  go_loop [5] (fun i => ∃ k : Nat, i = .int .i64 k ∧ k ≤ U.wi.length ∧ ∀ j (hj : j < U.wi.length), j < k → (U.wi[j].toList == tx.toList) = false) (fun i => U.wi.length - (intOf i).toNat)
  case atStart => exact ⟨0, rfl, by omega, fun j _ h => by omega⟩
  case round =>
    obtain ⟨k, rfl, hk, hall⟩ := hrel
    have HAL := hide hall
    clear hall
    by_cases hlt : k < U.wi.length
    · obtain ⟨b, off, hab, hbw, -, hc⟩ := HT3.out.full' (by omega)
      subst hab
      obtain ⟨x, hx⟩ : ∃ x, x = U.wi[k] := ⟨_, rfl⟩
      have e0 : wz.cell? ⟨b, off + k, none⟩ = some (.string x) := by rw [hx]; exact (hc k hlt).2
      have HX := hide hx
      have i0 : (0 : Int) ≤ (k : Int) := by omega
      have i1 : (k : Int) < (U.wi.length : Int) := by omega
      clear hc hx
      cases q4 : (x.toList == tx.toList) with
      | true =>
        have HV : Hid (wishU U tx = U) := by unfold Hid wishU; rw [HE.out, any_yes (L := U.wi) (f := fun s => s.toList == tx.toList) hlt (by rw [← HX.out, q4])]; simp
        have HRA : Hid (World.rangeAt wz w.heap.size 0 cs) := FB.out.range rfl
        have HTH : Hid (World.there wz (w.heap.size + 1) 0 cs.toArray.size) := by unfold Hid; rw [H18.out]; exact RB.out.there rfl
        go_wp2_with (first | (with_reducible refine wpList_load_mid (by with_reducible rfl) 41 (.tmp 2) (by with_reducible rfl) w.heap.size 0 (by with_unfolding_all rfl) cs _ HRA.out Tryz.underlying41 (by with_unfolding_all rfl) HS.out ?_) | (with_reducible refine wpList_store_mid (by with_reducible rfl) 41 (.tmp 4) (.tmp 46) (by with_reducible rfl) (w.heap.size + 1) 0 cs.toArray (by with_unfolding_all rfl) (by with_unfolding_all rfl) HTH.out HSA.out HON.out ?_; refine Hid.out ?_))
        generalize hW : World.setCells _ _ _ _ = W9
        have FR9 : Hid (Box W9 (w.heap.size + 1) cs.toArray) := by unfold Hid; rw [← hW]; exact RB.out.full (by rw [H18.out]; rfl)
        have HB9 : Hid (Below w.heap.size w W9) := by unfold Hid; rw [← hW]; exact Below.sets (by omega) _ _ HB.out
        clear hW
        refine hide ?_
        go_wp2
        exact bodyPost_ret (v := .agg cs.toArray) (res_rr (p := 4) (ty := 41) Tryz.results60 _ _ (w.heap.size + 1) 0 cs _ rfl (FR9.out.range rfl) Tryz.underlying41 rfl HS.out) rfl ⟨cs, rfl, HB9.out.mono HLO.out, by rw [HV.out, HCS.out]; exact ⟨b0, m0, b1, m1, b2, m2, some ⟨b, off, none⟩, m3, b4, m4, b5, m5, b6, m6, rfl, (HC.out.below HB9.out).at HZ.out⟩⟩
      | false =>
        have HQ := hide q4
        go_wp2
        go_round
        case rel => exact ⟨k + 1, by go_num, by omega, fun j hj hjk => by
                      by_cases e : j = k
                      · subst e; rw [← HX.out]; exact HQ.out
                      · exact HAL.out j hj (by omega)⟩
        case measure => simp [intOf]; omega
    · have HV : Hid (wishU U tx = { U with wi := U.wi ++ [tx] }) := by unfold Hid wishU; rw [HE.out, q0, q1, q2, q3, any_no (L := U.wi) (f := fun s => s.toList == tx.toList) (fun i hi => HAL.out i hi (by omega))]; rfl
      have y10 : ∀ o, (wz.alloc o).cell? ⟨w.heap.size, 10, none⟩ = some (.slice b3 U.wi.length m3) := fun o => ((FB.out.on (one_al wz o)).cell 10).trans (by rw [← FB.out.cell 10]; exact g10)
      have hsg := fun i hi => HC.out.seg i hi
      have HSG := hide hsg
      have HO3 : Hid (∀ o, FRow tyL 1 (wz.alloc o) (c 3).1 (c 3).2 (.slice b3 U.wi.length m3) U.wi) := fun o => (HC.out.o3.below HB.out).below (one_al _ o)
      clear hsg q0 q1 q2 q3
      go_wp2_with (at_builtin; refine wpList_fr tyL_len (by decide) Tryz.underlying26 infoTx rfl (w := wz.alloc _) (lo := (c 3).1) (hi' := (c 3).2) (L := U.wi) [tx] rfl (.tmp 48) (.tmp 50) rfl rfl (HO3.out _) (some ⟨wz.heap.size, 0, none⟩) 1 1 rfl rfl (fun e => by cases e) (fun ad e j u hu => by
          injection e with e
          subst e
          rw [Addr.add_lit, Nat.zero_add, (Box.new wz _ _ _ rfl).cell j]
          simpa [flatV, tyL] using hu) (tyL_one _) (by simp; omega) (by decide) ?_; intro u3 x3 h1 h2; have HT := hide h1; have HR := hide h2; clear h1 h2; refine Hid.out ?_)
      have hza : w.heap.size + 2 < (wz.alloc (.cells #[.string tx] 9)).heap.size := by simp; omega
      obtain ⟨y1, hy1, HBy, HTy, HRy⟩ : ∃ y1, y1 = wz.alloc (.cells #[.string tx] 9) ∧ Hid (Below wz.heap.size wz y1) ∧ Hid (Touch (c 3).1 (c 3).2 y1 x3) ∧ Hid (FRow tyL 1 x3 (c 3).1 (c 3).2 u3 (U.wi ++ [tx]) ∨ FRow tyL 1 x3 y1.heap.size x3.heap.size u3 (U.wi ++ [tx])) := ⟨_, rfl, one_al _ _, HT.out, HR.out⟩
      rw [← hy1] at hza
      clear hy1 HT HR HO3 y10 g10
      have hs3 := (HSG.out 3 (by decide)).2
      have hx3 : y1.heap.size ≤ x3.heap.size := HTy.out.size
      have FB3 := hide ((FB.out.on HBy.out).tch2 HTy.out (Or.inr hs3))
      have RB3 := hide ((RB.out.on HBy.out).tch2 HTy.out (Or.inr (by omega)))
      have hw3 : ∃ g m, u3 = .slice (some ⟨g, 0, none⟩) (U.wi ++ [tx]).length m := by
        rcases HRy.out with ⟨g, m, e, -⟩ | ⟨g, m, e, -⟩
        · exact ⟨g, m, e⟩
        · exact ⟨g, m, e⟩
      obtain ⟨g3, n3, hu3⟩ := hw3
      subst hu3
      obtain ⟨bb, hbb⟩ : ∃ bb : Option Addr, bb = some ⟨g3, 0, none⟩ := ⟨_, rfl⟩
      rw [← hbb] at HRy
      rw [← hbb]
      clear hbb
      obtain ⟨V, hV⟩ : ∃ V : Rr, V = { U with wi := U.wi ++ [tx] } := ⟨_, rfl⟩
      obtain ⟨ll, hll⟩ : ∃ ll, ll = rrL V b0 m0 b1 m1 b2 m2 bb n3 b4 m4 b5 m5 b6 m6 := ⟨_, rfl⟩
      have HLL := hide hll
      have FB8 : Hid (Box (x3.setCell ⟨w.heap.size, 10, none⟩ (.slice bb (U.wi ++ [tx]).length n3)) w.heap.size ll.toArray) := by
        unfold Hid
        have h1 := FB3.out
        rw [HCS.out] at h1
        have h2 := h1.set (k := 10) (.slice bb (U.wi ++ [tx]).length n3) (by show 10 < 18; omega)
        rw [hll, hV]
        exact h2
      have RB8 : Hid (Box (x3.setCell ⟨w.heap.size, 10, none⟩ (.slice bb (U.wi ++ [tx]).length n3)) (w.heap.size + 1) #[.int .i64 0, .int .i64 0, .bool false, .int .i64 0, .int .i64 0, .slice none 0 0, .int .i64 0, .int .i64 0, .slice none 0 0, .slice none 0 0, .slice none 0 0, .bool false, .bool false, .int .i64 0, .slice none 0 0, .slice none 0 0, .slice none 0 0, .int .i64 0]) := RB3.out.setFar (by simp only []; omega) _
      have h18 : ll.toArray.size = 18 := by rw [hll]; rfl
      clear HS HSA HON
      have HS : Hid ((Tryz.prog.info? 41).map (·.size) = some ll.length) := by unfold Hid; rw [hll]; exact sizeRr
      have HSA : Hid ((Tryz.prog.info? 41).map (·.size) = some ll.toArray.size) := by unfold Hid; rw [hll]; exact sizeRr
      have HON : Hid (ll.toArray.all (·.oneCell') = true) := by unfold Hid; rw [hll]; simp [rrL, Value.oneCell']
      have HTH : Hid (World.there (x3.setCell ⟨w.heap.size, 10, none⟩ (.slice bb (U.wi ++ [tx]).length n3)) (w.heap.size + 1) 0 ll.toArray.size) := by unfold Hid; rw [h18]; exact RB8.out.there rfl
      have HRA : Hid (World.rangeAt (x3.setCell ⟨w.heap.size, 10, none⟩ (.slice bb (U.wi ++ [tx]).length n3)) w.heap.size 0 ll) := FB8.out.range rfl
      have gf : x3.frozen? ⟨w.heap.size, 10, none⟩ = false := FB3.out.free 10
      have gc : x3.cell? ⟨w.heap.size, 10, none⟩ = some (.slice b3 U.wi.length m3) := by have h1 := FB3.out.cell 10; rw [HCS.out] at h1; exact h1
      have H9 := hide h18
      have HVV := hide hV
      clear hll h18 hV
      obtain ⟨nw, hnw⟩ : ∃ n : Nat, n = (U.wi ++ [tx]).length := ⟨_, rfl⟩
      rw [← hnw] at FB8 RB8 HTH HRA
      rw [← hnw]
      have HNW := hide hnw
      clear hnw
      refine hide ?_
      go_wp2_with (first
        | (with_reducible refine wpList_load_mid (by with_reducible rfl) 41 (.tmp 2) (by with_reducible rfl) w.heap.size 0 (by with_unfolding_all rfl) ll _ HRA.out Tryz.underlying41 (by with_unfolding_all rfl) HS.out ?_)
        | (with_reducible refine wpList_store_mid (by with_reducible rfl) 41 (.tmp 4) (.tmp 53) (by with_reducible rfl) (w.heap.size + 1) 0 ll.toArray (by with_unfolding_all rfl) (by with_unfolding_all rfl) HTH.out HSA.out HON.out ?_; refine Hid.out ?_))
      clear gf gc
      generalize hW : World.setCells _ _ _ _ = W9
      have FR9 : Hid (Box W9 (w.heap.size + 1) ll.toArray) := by unfold Hid; rw [← hW]; exact RB8.out.full (by rw [H9.out]; rfl)
      have TT : Hid (Touch w.heap.size (w.heap.size + 2) x3 W9) := by unfold Hid; rw [← hW]; exact (Touch.setCell w.heap.size (w.heap.size + 2) _ _ _ ⟨Nat.le_refl _, by simp only []; omega⟩).trans (Touch.sets ⟨by omega, by omega⟩ _ _ _)
      clear hW
      have hlow := HLO.out
      have h31 : (c 3).1 ≤ (c 3).2 := by
        obtain ⟨g', cap', -, hr⟩ := HC.out.o3
        have := hr.bs
        have := hr.up
        omega
      have HBW : Hid (Below lo w W9) := ((bt HB.out HBy.out).mono hlow).trans (((HTy.out.under (by omega)).mono (HSG.out 3 (by decide)).1).trans ((TT.out.under (by omega)).mono hlow))
      obtain ⟨g2, L2, hm2, hL2⟩ := (HC.out.below (bt HB.out HBy.out)).o2
      obtain ⟨g6, L6, hm6, hL6⟩ := (HC.out.below (bt HB.out HBy.out)).o6
      have HCy := HC.out.below (bt HB.out HBy.out)
      have ap := HC.out.ap
      have s0 := (HSG.out 0 (by decide))
      have s1 := (HSG.out 1 (by decide))
      have s2 := (HSG.out 2 (by decide))
      have s3 := (HSG.out 3 (by decide))
      have s4 := (HSG.out 4 (by decide))
      have s5 := (HSG.out 5 (by decide))
      have s6 := (HSG.out 6 (by decide))
      have r0 := ((HCy.o0.touch HTy.out (ap 0 3 (by decide) (by decide) (by decide))).touch TT.out (Or.inl s0.2)).rss HZ.out.z0
      have r1' := ((HCy.o1.touch HTy.out (ap 1 3 (by decide) (by decide) (by decide))).touch TT.out (Or.inl s1.2)).rss HZ.out.z1
      have r2' := ((hm2.touch HTy.out (ap 2 3 (by decide) (by decide) (by decide))).touch TT.out (Or.inl s2.2)).rms hL2 HZ.out.z2
      have r4 := ((HCy.o4.touch HTy.out (ap 4 3 (by decide) (by decide) (by decide))).touch TT.out (Or.inl s4.2)).ris
      have r5 := ((HCy.o5.touch HTy.out (ap 5 3 (by decide) (by decide) (by decide))).touch TT.out (Or.inl s5.2)).rss HZ.out.z5
      have r6 := ((hm6.touch HTy.out (ap 6 3 (by decide) (by decide) (by decide))).touch TT.out (Or.inl s6.2)).ras hL6
      have zz : ∀ i (h : i < (U.wi ++ [tx]).length), (U.wi ++ [tx])[i].size ≤ maxLen := by
        intro i hi
        rw [List.getElem_append]
        split
        · exact HZ.out.z3 i (by assumption)
        · simpa using HTX.out
      have r3 : RtsAt lo W9 (.slice bb (U.wi ++ [tx]).length n3) (U.wi ++ [tx]) := by
        rcases HRy.out with h | h
        · exact ((h.touch TT.out (Or.inl s3.2)).rts zz).at.mono s3.1
        · exact ((h.touch TT.out (Or.inr (by omega))).rts zz).at.mono (by omega)
      refine hide ?_
      go_wp2
      exact bodyPost_ret (v := .agg ll.toArray) (res_rr (p := 4) (ty := 41) Tryz.results60 _ _ (w.heap.size + 1) 0 ll _ rfl (FR9.out.range rfl) Tryz.underlying41 rfl HS.out) rfl ⟨ll, rfl, HBW.out, by
        rw [HV.out, HLL.out, HVV.out]
        exact ⟨b0, m0, b1, m1, b2, m2, bb, n3, b4, m4, b5, m5, b6, m6, rfl, ⟨r0.at.mono s0.1, r1'.at.mono s1.1, r2'.mono s2.1, r3, r4.at.mono s4.1, r5.at.mono s5.1, r6.mono s6.1⟩⟩⟩
end Go.Proofs.YtfbfgljkiikabaaGreat
