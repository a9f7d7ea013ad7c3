import Derived.Test.YtoklnkojacdciaaM43
namespace Go.Proofs.Ytoklnkojacdciaa
open Go.RowKit Go.Deep Go.Maps Go.ChangeMaps Go.MapKept

def SafeOk (R : List Rr) : Prop := R.length ≤ 5 ∧ ∀ x ∈ R, x.sf.sl.length ≤ 120 ∧ ∀ s ∈ x.sf.sl, 0 ≤ s.ba ∧ s.ba ≤ 1000000
theorem SafeOk.slots {R : List Rr} (h : SafeOk R) {ix : Int} : ∀ s ∈ slotsOf R ix, 0 ≤ s.ba := fun s hs => by
  unfold slotsOf at hs
  obtain ⟨x, hx, hxs⟩ := List.mem_filterMap.1 hs
  unfold slotAt at hxs
  split at hxs
  · exact ((h.2 x hx).2 s (List.mem_of_getElem? hxs)).1
  · cases hxs
theorem slotAt_no {x : Rr} {ix : Int} (h : inB 1 (x.sf.sl.length : Int) ix = false) : slotAt x ix = none := by
  unfold slotAt
  split
  · rename_i h1
    rw [List.getElem?_eq_none]
    unfold inB at h
    have := of_decide_eq_false h
    omega
  · rfl
theorem slotAt_yes {x : Rr} {p : Nat} (h : p < x.sf.sl.length) : slotAt x ((p : Int) + 1) = some x.sf.sl[p] := by
  unfold slotAt
  rw [if_pos (by omega), show ((p : Int) + 1 - 1).toNat = p by omega, List.getElem?_eq_getElem h]
theorem owns_below {H : Type} {P : Program} {w w' : World} {k : TypeId} {R : Value → Option (DataW H × List MemPlace)} {b n m : Nat} {D : DataW H} (h : w.ownsMap P k R b n D) (hb : Below m w w') (hl : b < m) : w'.ownsMap P k R b n D :=
  owns_same h (hb.block b hl)

set_option maxRecDepth 100000 in
set_option maxHeartbeats 8000000 in
theorem majI_any (lo : Nat) (v : Value) (R : List Rr) (ix : Int) (w : World) (hv : RrsAt lo w v R) (hok : SafeOk R) :
    Calls Try.prog 45 #[v, .int .i64 ix] w fun e w' => e = .returned (.tuple (majV (majR R ix))) ∧ Below w.heap.size w w' := by
  have HV := hide hv
  have HOK := hide hok
  have hn5 := hok.1
  obtain ⟨a, cap, rfl⟩ := hv.form
  obtain ⟨n, hn⟩ : ∃ n, n = R.length := ⟨_, rfl⟩
  rw [← hn] at hn5 ⊢
  have HNN := hide hn
  clear hv hok hn
  have hmm := @run_makeMap Try.prog
  go_enter Try.func45, Try.ntmps45
  go_wp2
  clear hmm
  go_loopw [13] (fun i wr => ∃ k : Nat, i = .int .i64 k ∧ k ≤ n ∧ Below w.heap.size w wr ∧ ∃ (D : DataW Unit) (c : Nat), c ≤ k ∧ wr.ownsMap Try.prog 114 (plainElem Try.prog 3) w.heap.size c D ∧ CntOk (slotsOf (R.take k) ix) D ∧ noHit (slotsOf (R.take k) ix) n) (fun i _ => n - (intOf i).toNat)
  case atStart => exact ⟨0, rfl, Nat.zero_le _, one_al _ _, .map [], 0, Nat.le_refl _, World.ownsMap_made _ _ _ _, CntOk.start, fun j hj => by simp [slotsOf] at hj⟩
  case round =>
    obtain ⟨k, rfl, hk, hb, D, q, hqk, ho, hcnt, hno⟩ := hrel
    have HBr := hide hb
    have HCN := hide hcnt
    have HNH := hide hno
    have HO := hide ho
    have hol : w.heap.size < wr.heap.size := ho.lt
    clear hb hcnt hno ho
    by_cases hlt : k < n
    · have hkl : k < R.length := by rw [← HNN.out]; exact hlt
      obtain ⟨b, off, rfl, hbw, -, hc⟩ := HV.out.full' (by omega)
      obtain ⟨cs, hr, hx⟩ := hc k hkl
      have HTK : Hid (slotsOf (R.take (k + 1)) ix = slotsOf (R.take k) ix ++ (slotAt R[k] ix).toList) := slots_take hkl
      have HXO : Hid (R[k].sf.sl.length ≤ 120 ∧ ∀ s ∈ R[k].sf.sl, 0 ≤ s.ba ∧ s.ba ≤ 1000000) := HOK.out.2 _ (List.getElem_mem hkl)
      obtain ⟨x, hxx⟩ : ∃ x, x = R[k] := ⟨_, rfl⟩
      rw [← hxx] at hx HTK HXO
      have HX := hide (hx.below HBr.out)
      have HR := hide (rng_below hr HBr.out hbw)
      have HLN : Hid (cs.length = 18) := hx.len
      have HL8 : Hid (cs.toArray.size = 18) := hx.len
      have HON : Hid (cs.toArray.all (·.oneCell') = true) := hx.one
      obtain ⟨a0, k0, hcs5, hrs⟩ : ∃ a0 k0, cs[5]? = some (.slice a0 x.sf.sl.length k0) ∧ RssAt lo wr (.slice a0 x.sf.sl.length k0) x.sf.sl := by
        obtain ⟨a0, k0, a1, k1, a2, k2, a3, k3, a4, k4, a5, k5, a6, k6, hcs, h⟩ := HX.out
        exact ⟨a0, k0, by rw [hcs]; rfl, h.l0⟩
      have HC5 := hide hcs5
      have HRS := hide hrs
      have i0 : (0 : Int) ≤ (k : Int) := by omega
      have i1 : (k : Int) < (n : Int) := by omega
      clear hc hxx hr hx hcs5 hrs
      have HSy0 : Hid ((Try.prog.info? 51).map (·.size) = some cs.length) := by unfold Hid; rw [HLN.out]; exact Rr_sizeI
      have HSz0 : Hid ((Try.prog.info? 51).map (·.size) = some cs.toArray.size) := by unfold Hid; rw [HL8.out]; exact Rr_sizeI
      have HTH : Hid (World.there (wr.alloc (.cells #[.int .i64 0, .int .i64 0, .bool false, .int .i64 0, .int .i64 0, .slice none 0 0, .int .i64 0, .int .i64 0, .slice none 0 0, .slice none 0 0, .slice none 0 0, .bool false, .bool false, .int .i64 0, .slice none 0 0, .slice none 0 0, .slice none 0 0, .int .i64 0] 51)) wr.heap.size 0 cs.toArray.size) := by unfold Hid; rw [HL8.out]; exact (Box.new _ _ _ _ rfl).there rfl
      go_wp2_with (first
        | (with_reducible refine wpList_load_mid (by with_reducible rfl) 51 (.tmp 15) (by with_reducible rfl) b (off + k * 18) (by with_unfolding_all rfl) cs _ HR.out Try.underlying51 (by with_unfolding_all rfl) HSy0.out ?_)
        | (with_reducible refine wpList_store_mid (by with_reducible rfl) 51 (.tmp 8) (.tmp 16) (by with_reducible rfl) wr.heap.size 0 cs.toArray (by with_unfolding_all rfl) (by with_unfolding_all rfl) HTH.out HSz0.out HON.out ?_; refine Hid.out ?_))
      generalize hWb : World.setCells _ _ _ _ = Wb
      have HBx : Hid (Below wr.heap.size wr Wb) := by unfold Hid; rw [← hWb]; exact Below.sets (Nat.le_refl _) _ _ (one_al _ _)
      have BX : Hid (Box Wb wr.heap.size cs.toArray) := by unfold Hid; rw [← hWb]; exact (Box.new _ _ _ _ rfl).full (by rw [HL8.out]; rfl)
      clear hWb HTH HSz0 HR
      refine hide ?_
      have c5 : Wb.cell? ⟨wr.heap.size, 5, none⟩ = some (.slice a0 x.sf.sl.length k0) := by rw [BX.out.cell 5]; simpa using HC5.out
      replace HO := hide (owns_below HO.out HBx.out hol)
      replace HRS := hide (HRS.out.below HBx.out)
      have HBb : Hid (Below w.heap.size w Wb) := bt HBr.out HBx.out
      have hwl : w.heap.size < Wb.heap.size := Nat.lt_of_lt_of_le hol HBx.out.size
      have hx120 := HXO.out.1
      clear BX HC5 HX HLN HL8 HON HSy0
      cases q1 : inB 1 (x.sf.sl.length : Int) ix with
      | false =>
        have HT : Hid (slotsOf (R.take (k + 1)) ix = slotsOf (R.take k) ix) := by unfold Hid; rw [HTK.out, slotAt_no q1]; simp
        go_wp2_with (go_at_call 22; refine (within_any _ _ _ _).mono ?_; rw [q1]; rintro e Wb ⟨rfl, rfl⟩)
        go_roundw
        case rel => exact ⟨k + 1, by go_num, by omega, HBb.out, D, q, by omega, HO.out, by rw [HT.out]; exact HCN.out, by rw [HT.out]; exact HNH.out⟩
        case measure => simp [intOf]; omega
      | true =>
        obtain ⟨p, hp, hpl⟩ : ∃ p : Nat, ix = (p : Int) + 1 ∧ p < x.sf.sl.length := by
          unfold inB at q1
          have := of_decide_eq_true q1
          exact ⟨(ix - 1).toNat, by omega, by omega⟩
        subst hp
        have HT : Hid (slotsOf (R.take (k + 1)) ((p : Int) + 1) = slotsOf (R.take k) ((p : Int) + 1) ++ [x.sf.sl[p]]) := by unfold Hid; rw [HTK.out, slotAt_yes hpl]; rfl
        obtain ⟨g, og, rfl, hgw, -, hcg⟩ := HRS.out.full' (by omega)
        obtain ⟨hsz, hcz⟩ := hcg p hpl
        have hs0 := (HXO.out.2 _ (List.getElem_mem hpl)).1
        have hs1 := (HXO.out.2 _ (List.getElem_mem hpl)).2
        obtain ⟨s, hs⟩ : ∃ s, s = x.sf.sl[p] := ⟨_, rfl⟩
        rw [← hs] at hsz hcz hs0 hs1 HT
        clear hs hcg
        have d0 : Wb.cell? ⟨g, og + p * 2, none⟩ = some (.int .i64 s.ba) := hcz.c0
        have d1 : Wb.cell? ⟨g, og + p * 2 + 1, none⟩ = some (.string s.tx) := hcz.c1
        have hsx : s.tx.size ≤ maxLen := hsz.s0
        have HSX := hide hsx
        unfold maxLen at hsx
        obtain ⟨T, hT⟩ : ∃ T, T = slotsOf (R.take k) ((p : Int) + 1) := ⟨_, rfl⟩
        rw [← hT] at HCN HNH HT
        have hTl : T.length ≤ 5 := by rw [hT]; have := slots_len (R.take k) ((p : Int) + 1); rw [List.length_take] at this; omega
        have hct := ct_le T s.ba s.tx
        clear hT hcz hsz
        have j0 : (0 : Int) ≤ (p : Int) := by omega
        have j1 : (p : Int) < (x.sf.sl.length : Int) := by omega
        have jn : IntKind.i64.wrap ((p : Int) + 1 - 1) = (p : Int) := by rw [IntWalk.i64_left]; unfold wrap64; omega
        obtain ⟨Wc, hWc, HYc, HBc, HOc⟩ : ∃ Wc, Wc = Wb.alloc (.cells #[.int .i64 s.ba, .string s.tx] 114) ∧ Hid (Box Wc Wb.heap.size #[.int .i64 s.ba, .string s.tx]) ∧ Hid (Below w.heap.size w Wc) ∧ Hid (Wc.ownsMap Try.prog 114 (plainElem Try.prog 3) w.heap.size q D) := ⟨_, rfl, Box.new _ _ _ _ rfl, bt HBb.out (one_al _ _), owns_below HO.out (one_al _ _) hwl⟩
        obtain ⟨c, v0, st, w1, hent, hat, hwc, hl0, hl1, hg1, hs1', hst⟩ := entry_own slLaw Try.underlying115 Try.underlying3 slZero HOc.out.drew (by unfold maxLen; omega) (slNum.mk' (sl_wf hs0 hs1) HSX.out)
        have hcc : c = (ct T s.ba s.tx : Int) := by
          have := hat.symm.trans (HCN.out.sums s.ba s.tx hs0 hs1 HSX.out)
          injection this with this
          injection this
        subst hcc
        have ew : IntKind.i64.wrap ((ct T s.ba s.tx : Int) + 1) = (ct T s.ba s.tx : Int) + 1 := by rw [IntWalk.i64_left]; unfold wrap64; omega
        obtain ⟨w2, hrun2, ho2, hg2, hs2⟩ := hst ((ct T s.ba s.tx : Int) + 1) (sl_wf (by omega) (by omega))
        obtain ⟨c2, hl2, hat2, -⟩ := ho2.lookup_int (Keyed.of_law slLaw) Try.underlying115 Try.underlying3 (slZero _) (slNum.mk' (sl_wf hs0 hs1) HSX.out)
        have HCN2 := hide (HCN.out.step hs0 hs1 HSX.out)
        have hc2 : c2 = (ct T s.ba s.tx : Int) + 1 := by
          rw [atKey_put_same HCN.out.isMap (isKey_sl _ _)] at hat2
          injection hat2 with e
          injection e with _ e
          exact e.symm
        subst hc2
        have HO2 := hide ho2
        have HB2 : Hid (Below w.heap.size w w2) := ranges_kept_below HBc.out.drew hg2 (Nat.le_refl _)
        have y0 := HYc.out.cell 0
        have y1 := HYc.out.cell 1
        have z0 : w2.cell? ⟨Wb.heap.size, 0, none⟩ = some (.int .i64 s.ba) := (World.cell?_of_block (w := Wc.drew) (hg2.5 Wb.heap.size HYc.out.lt (fun e => by injection e with e; omega))).trans (HYc.out.cell 0)
        have z1 : w2.cell? ⟨Wb.heap.size, 1, none⟩ = some (.string s.tx) := (World.cell?_of_block (w := Wc.drew) (hg2.5 Wb.heap.size HYc.out.lt (fun e => by injection e with e; omega))).trans (HYc.out.cell 1)
        simp at y0 y1
        simp only [goInt] at hent hrun2
        clear hst ho2 hg1 hg2 hat hat2 hs1' hs2 hwc
        go_wp2_with (go_at_call 22; refine (within_any _ _ _ _).mono ?_; rw [q1]; rintro e Wb ⟨rfl, rfl⟩)
        rw [← hWc]
        clear hWc
        have m2 : IntKind.i64.wrap (2 * ((ct T s.ba s.tx : Int) + 1)) = 2 * ((ct T s.ba s.tx : Int) + 1) := by rw [IntWalk.i64_left]; unfold wrap64; omega
        by_cases hh : 0 < s.ba ∧ (n : Int) < 2 * ((ct T s.ba s.tx : Int) + 1)
        · have q2 := hh.1
          have q3 := hh.2
          have HE : Hid (majR R ((p : Int) + 1) = some s.tx) := hit_some HT.out q2 (by rw [ct_append, ct_one, if_pos ⟨rfl, rfl⟩, ← HNN.out]; omega)
          clear hh
          go_region
          all_goals go_wp2
          all_goals exact bodyPost_ret (v := .tuple #[.string s.tx, .bool true]) (by simp [results, Try.results45, go_sem]) rfl ⟨by rw [HE.out]; rfl, HB2.out⟩
        · have HN2 : Hid (noHit (slotsOf (R.take (k + 1)) ((p : Int) + 1)) n) := by
            unfold Hid
            rw [HT.out]
            refine HNH.out.snoc (fun h => hh ⟨h.1, ?_⟩)
            have := h.2
            rw [ct_append, ct_one, if_pos ⟨rfl, rfl⟩] at this
            omega
          have HC2 : Hid (CntOk (slotsOf (R.take (k + 1)) ((p : Int) + 1)) (D.put (ixL s.ba s.tx) (.lit (.int .i64 ((ct T s.ba s.tx : Int) + 1))))) := by unfold Hid; rw [HT.out]; exact HCN2.out
          by_cases q2 : 0 < s.ba
          · have q3 : ¬ (n : Int) < 2 * ((ct T s.ba s.tx : Int) + 1) := fun h => hh ⟨q2, h⟩
            clear hh
            go_region
            all_goals go_wp2
            all_goals go_roundw
            all_goals first
              | (case rel => exact ⟨k + 1, by go_num, by omega, HB2.out, _, q + 1, by omega, HO2.out, HC2.out, HN2.out⟩)
              | (case measure => simp [intOf]; omega)
          · clear hh
            go_region
            all_goals go_wp2
            all_goals go_roundw
            all_goals first
              | (case rel => exact ⟨k + 1, by go_num, by omega, HB2.out, _, q + 1, by omega, HO2.out, HC2.out, HN2.out⟩)
              | (case measure => simp [intOf]; omega)
    · have HE : Hid (majR R ix = none) := by
        unfold Hid
        have e : R.take k = R := List.take_of_length_le (by rw [← HNN.out]; omega)
        have h := HNH.out
        rw [e, HNN.out] at h
        exact h.none HOK.out.slots
      go_wp2
      refine bodyPost_ret (v := .tuple #[.string ⟨#[]⟩, .bool false]) (by simp [results, Try.results45, go_sem]) rfl ⟨by rw [HE.out]; rfl, HBr.out⟩
end Go.Proofs.Ytoklnkojacdciaa
