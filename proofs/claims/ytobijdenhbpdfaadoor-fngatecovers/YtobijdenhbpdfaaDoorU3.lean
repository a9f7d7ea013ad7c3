import Derived.Test.YtobijdenhbpdfaaDoorU2
import Derived.Test.YtobijdenhbpdfaaDoorT13
namespace Go.Proofs.YtobijdenhbpdfaaDoor
open Go.RowKit Go.Deep

theorem OwnS.blk {base : Nat} {W : World} {v : Value} {R : List ByteArray} (h : OwnS base W v R) {g : Nat} (hg : v.ownBlock = some g) : g < W.heap.size := by
  rcases h.row.2 with ⟨hv, _⟩ | ⟨g', cap, cur, hv, _, h2, _⟩
  · rw [hv] at hg; cases hg
  · rw [hv] at hg
    have e : g' = g := by simpa [Value.ownBlock] using hg
    subst e
    rcases Nat.lt_or_ge g' W.heap.size with h | h
    · exact h
    · rw [Array.getElem?_eq_none h] at h2; cases h2
theorem OwnS.kept {base : Nat} {W w' : World} {v : Value} {R : List ByteArray} {ob : Option Nat} (h : OwnS base W v R) (hg : W.grownBy w' ob) (hne : v.ownBlock ≠ ob ∨ v.ownBlock = none) : OwnS base w' v R := by
  have hlt := @OwnS.blk base W v R h
  refine ⟨⟨h.row.1, ?_⟩, h.sz⟩
  rcases h.row.2 with hv | ⟨g, cap, cur, hv, h1, h2, h3⟩
  · exact Or.inl hv
  · refine Or.inr ⟨g, cap, cur, hv, h1, ?_, h3⟩
    have hb : v.ownBlock = some g := by rw [hv]; rfl
    rw [hg.block g (hlt hb) (by
      rcases hne with hne | hne
      · rw [hb] at hne; exact hne
      · rw [hb] at hne; cases hne)]
    exact h2
def kindsL (Rs : List Ru) : List ByteArray := Rs.map Ru.kd
def teamsL (Ts : List Tm) (Rs : List Ru) : List ByteArray := Ts.map Tm.nm ++ Rs.map Ru.tm
theorem map_take {α : Type} {L : List α} {f : α → ByteArray} {k : Nat} (h : k < L.length) : (L.take (k + 1)).map f = (L.take k).map f ++ [f L[k]] := by
  rw [List.take_succ_eq_append_getElem h, List.map_append]; rfl

set_option maxRecDepth 20000 in
set_option maxHeartbeats 2000000 in
theorem kindsTaken_any (lr : Nat) (sv : Value) (Rs : List Ru) (w : World) (hR : RusAt lr w sv Rs) (hn : Rs.length ≤ 1048576) :
    Calls Tryd.prog 21 #[sv] w fun e w' => ∃ v, e = .returned v ∧ Below w.heap.size w w' ∧ OwnS w.heap.size w' v (kindsL Rs) := by
  obtain ⟨i0, hi, hz0, hz1, hz2⟩ := info_parts Tryd.info9
  have HI := hide (And.intro hi (And.intro hz0 (And.intro hz1 hz2)))
  clear hi hz0 hz1 hz2
  have HR := hide hR
  obtain ⟨sa, scap, rfl⟩ := hR.form
  clear hR
  go_enter Tryd.func21, Tryd.ntmps21
  go_wp2
  go_loopw [3, 8] (fun v i wr => ∃ k : Nat, i = .int .i64 k ∧ k ≤ Rs.length ∧ Below w.heap.size w wr ∧ OwnS w.heap.size wr v ((Rs.take k).map Ru.kd)) (fun _ i _ => Rs.length - (intOf i).toNat)
  case atStart => exact ⟨0, rfl, by omega, Below.refl _ _, OwnS.nil _ _⟩
  case round =>
    obtain ⟨k, rfl, hk, hb, hown⟩ := hrel
    have HB := hide hb
    have HO := hide hown
    obtain ⟨va, vcap, rfl⟩ := hown.form
    clear hb hown
    by_cases hlt : k < Rs.length
    · obtain ⟨rb, ro, rfl, hrb, hrc⟩ := HR.out.full' (by omega)
      obtain ⟨hsz, qv, hcell, hqv⟩ := hrc k hlt
      have HSZ := hide hsz
      obtain ⟨c0, c1, c2, c3⟩ := hcell.below HB.out hrb
      obtain ⟨qa, qcap, rfl⟩ := hqv.form
      have HLk : Hid (((Rs.take k).map Ru.kd).length = k) := by unfold Hid; rw [List.length_map, List.length_take]; omega
      have HNX : Hid ((Rs.take (k + 1)).map Ru.kd = (Rs.take k).map Ru.kd ++ [Rs[k].kd]) := map_take hlt
      clear hcell hqv hrc hsz
      generalize hLL : (Rs.take k).map Ru.kd = LL at *
      have HLL := hide hLL
      clear hLL
      go_wp2_with (at_builtin; refine wpList_append_lies _ rfl (.tmp 12) (.tmp 15) 51 rfl w.heap.size 9 i0 (.string ⟨#[]⟩) 1 16 Tryd.underlying51 HI.out.1 HI.out.2.1 HI.out.2.2.1 HI.out.2.2.2 rfl (by decide) _ _ _ rfl (HO.out.below ((one_al _ _).alloc (by simp) _)).row ⟨wr.heap.size + 1, 0, none⟩ 1 1 [.string Rs[k].kd] rfl rfl (cell_new1 _ _ _ _ (by simp)) (one_oneCell _) (by decide) (by have := HLk.out; unfold maxLen; omega) (by have := HLk.out; omega) (by have := HB.out.size; simp; omega) _ rfl ?_; intro g cap1 w4 hown4 hgrow4 hat4 hlt4)
      go_roundw
      case rel => exact ⟨k + 1, by go_num, by omega, (HB.out.trans (((one_al wr _).alloc (by simp) _).mono HB.out.size)).trans ((HO.out.below ((one_al _ _).alloc (by simp) _)).grown hgrow4 (by have := HB.out.size; simp; omega)), by rw [HNX.out]; exact HO.out.snoc hown4 HSZ.out.s1⟩
      case measure => simp [intOf]; omega
    · have HE : Hid ((Rs.take k).map Ru.kd = kindsL Rs) := by unfold Hid kindsL; rw [List.take_of_length_le (by omega)]
      rw [HE.out] at HO
      go_wp2
      go_ret
      exact ⟨_, rfl, HB.out, by rw [HE.out]; exact HO.out⟩

set_option maxRecDepth 20000 in
set_option maxHeartbeats 4000000 in
theorem teamsTaken_any (lo lr : Nat) (tv sv : Value) (Ts : List Tm) (Rs : List Ru) (w : World) (hT : TmsAt lo w tv Ts) (hR : RusAt lr w sv Rs) (hm : Ts.length ≤ 1048576) (hn : Rs.length ≤ 1048576) :
    Calls Tryd.prog 22 #[tv, sv] w fun e w' => ∃ v, e = .returned v ∧ Below w.heap.size w w' ∧ OwnS w.heap.size w' v (teamsL Ts Rs) := by
  obtain ⟨i0, hi, hz0, hz1, hz2⟩ := info_parts Tryd.info9
  have HI := hide (And.intro hi (And.intro hz0 (And.intro hz1 hz2)))
  clear hi hz0 hz1 hz2
  have HR := hide hR
  have HT := hide hT
  obtain ⟨sa, scap, rfl⟩ := hR.form
  obtain ⟨ta, tcap, rfl⟩ := hT.form
  clear hR hT
  go_enter Tryd.func22, Tryd.ntmps22
  go_wp2
  go_loopw [5, 12] (fun v i wr => ∃ k : Nat, i = .int .i64 k ∧ k ≤ Ts.length ∧ Below w.heap.size w wr ∧ OwnS w.heap.size wr v ((Ts.take k).map Tm.nm)) (fun _ i _ => Ts.length - (intOf i).toNat)
  case atStart => exact ⟨0, rfl, by omega, Below.refl _ _, OwnS.nil _ _⟩
  case round =>
    obtain ⟨k, rfl, hk, hb, hown⟩ := hrel
    have HB := hide hb
    have HO := hide hown
    obtain ⟨va, vcap, rfl⟩ := hown.form
    clear hb hown
    by_cases hlt : k < Ts.length
    · obtain ⟨rb, ro, rfl, hrb, hrc⟩ := HT.out.full' (by omega)
      obtain ⟨hsz, hcell⟩ := hrc k hlt
      have HSZ := hide hsz
      obtain ⟨c0, c1⟩ := hcell.below HB.out hrb
      have HLk : Hid (((Ts.take k).map Tm.nm).length = k) := by unfold Hid; rw [List.length_map, List.length_take]; omega
      have HNX : Hid ((Ts.take (k + 1)).map Tm.nm = (Ts.take k).map Tm.nm ++ [Ts[k].nm]) := map_take hlt
      clear hcell hrc hsz
      generalize hLL : (Ts.take k).map Tm.nm = LL at *
      have HLL := hide hLL
      clear hLL
      go_wp2_with (at_builtin; refine wpList_append_lies _ rfl (.tmp 16) (.tmp 19) 51 rfl w.heap.size 9 i0 (.string ⟨#[]⟩) 1 16 Tryd.underlying51 HI.out.1 HI.out.2.1 HI.out.2.2.1 HI.out.2.2.2 rfl (by decide) _ _ _ rfl (HO.out.below ((one_al _ _).alloc (by simp) _)).row ⟨wr.heap.size + 1, 0, none⟩ 1 1 [.string Ts[k].nm] rfl rfl (cell_new1 _ _ _ _ (by simp)) (one_oneCell _) (by decide) (by have := HLk.out; unfold maxLen; omega) (by have := HLk.out; omega) (by have := HB.out.size; simp; omega) _ rfl ?_; intro g cap1 w4 hown4 hgrow4 hat4 hlt4)
      go_roundw
      case rel => exact ⟨k + 1, by go_num, by omega, (HB.out.trans (((one_al wr _).alloc (by simp) _).mono HB.out.size)).trans ((HO.out.below ((one_al _ _).alloc (by simp) _)).grown hgrow4 (by have := HB.out.size; simp; omega)), by rw [HNX.out]; exact HO.out.snoc hown4 HSZ.out.s0⟩
      case measure => simp [intOf]; omega
    · have HE : Hid ((Ts.take k).map Tm.nm = Ts.map Tm.nm) := by unfold Hid; rw [List.take_of_length_le (by omega)]
      have HE2 : Hid (Ts.map Tm.nm = Ts.map Tm.nm ++ (Rs.take 0).map Ru.tm) := by unfold Hid; simp
      rw [HE.out] at HO
      rw [HE.out]
      go_wp2
      go_loopw [5, 24] (fun v i wx => ∃ q : Nat, i = .int .i64 q ∧ q ≤ Rs.length ∧ Below w.heap.size w wx ∧ OwnS w.heap.size wx v (Ts.map Tm.nm ++ (Rs.take q).map Ru.tm)) (fun _ i _ => Rs.length - (intOf i).toNat)
      case atStart => exact ⟨0, rfl, by omega, HB.out, by rw [← HE2.out]; exact HO.out⟩
      case round =>
        obtain ⟨q, rfl, hq, hbq, hownq⟩ := hrel
        clear HO HB
        obtain ⟨wx, rfl⟩ : ∃ wx : World, wx = wr := ⟨_, rfl⟩
        have HB := hide hbq
        have HO := hide hownq
        obtain ⟨va, vcap, rfl⟩ := hownq.form
        clear hbq hownq
        by_cases hlt : q < Rs.length
        · obtain ⟨rb, ro, rfl, hrb, hrc⟩ := HR.out.full' (by omega)
          obtain ⟨hsz, qv, hcell, hqv⟩ := hrc q hlt
          have HSZ := hide hsz
          obtain ⟨c0, c1, c2, c3⟩ := hcell.below HB.out hrb
          obtain ⟨qa, qcap, rfl⟩ := hqv.form
          have HLk : Hid ((Ts.map Tm.nm ++ (Rs.take q).map Ru.tm).length = Ts.length + q) := by unfold Hid; rw [List.length_append, List.length_map, List.length_map, List.length_take]; omega
          have HNX : Hid (Ts.map Tm.nm ++ (Rs.take (q + 1)).map Ru.tm = (Ts.map Tm.nm ++ (Rs.take q).map Ru.tm) ++ [Rs[q].tm]) := by unfold Hid; rw [map_take hlt, List.append_assoc]
          clear hcell hqv hrc hsz
          generalize hLL : Ts.map Tm.nm ++ (Rs.take q).map Ru.tm = LL at *
          have HLL := hide hLL
          clear hLL
          go_wp2_with (at_builtin; refine wpList_append_lies _ rfl (.tmp 28) (.tmp 31) 51 rfl w.heap.size 9 i0 (.string ⟨#[]⟩) 1 16 Tryd.underlying51 HI.out.1 HI.out.2.1 HI.out.2.2.1 HI.out.2.2.2 rfl (by decide) _ _ _ rfl (HO.out.below ((one_al _ _).alloc (by simp) _)).row ⟨wx.heap.size + 1, 0, none⟩ 1 1 [.string Rs[q].tm] rfl rfl (cell_new1 _ _ _ _ (by simp)) (one_oneCell _) (by decide) (by have := HLk.out; unfold maxLen; omega) (by have := HLk.out; omega) (by have := HB.out.size; simp; omega) _ rfl ?_; intro g cap1 w4 hown4 hgrow4 hat4 hlt4)
          go_roundw
          case rel => exact ⟨q + 1, by go_num, by omega, (HB.out.trans (((one_al wx _).alloc (by simp) _).mono HB.out.size)).trans ((HO.out.below ((one_al _ _).alloc (by simp) _)).grown hgrow4 (by have := HB.out.size; simp; omega)), by rw [HNX.out]; exact HO.out.snoc hown4 HSZ.out.s2⟩
          case measure => simp [intOf]; omega
        · have HE3 : Hid (Ts.map Tm.nm ++ (Rs.take q).map Ru.tm = teamsL Ts Rs) := by unfold Hid teamsL; rw [List.take_of_length_le (by omega)]
          rw [HE3.out] at HO
          go_wp2
          go_ret
          exact ⟨_, rfl, HB.out, by rw [HE3.out]; exact HO.out⟩

/-- the least verb of a set -/
def leastB (b1 b2 b3 b4 b5 : Bool) : Int := if b1 then 1 else if b2 then 2 else if b3 then 3 else if b4 then 4 else if b5 then 5 else 8
def leastP (p : Int → Bool) : Int := leastB (p 1) (p 2) (p 3) (p 4) (p 5)
set_option maxRecDepth 100000 in
set_option maxHeartbeats 4000000 in
theorem tz8_any (b1 b2 b3 b4 b5 : Bool) (w : World) (h : (numB b1 b2 b3 b4 b5 == 0) = false) : Calls Tryd.prog 36 #[.int .u8 (numB b1 b2 b3 b4 b5)] w fun e w' => e = .returned (.int .i64 (leastB b1 b2 b3 b4 b5)) ∧ w' = w := by
  revert h
  cases b1 <;> cases b2 <;> cases b3 <;> cases b4 <;> cases b5 <;> intro h
  all_goals first
    | (exfalso; revert h; decide)
    | (simp only [numB, leastB, if_true, Bool.false_eq_true, if_false, Int.add_zero, Int.zero_add, Int.reduceAdd]
       go_enter Tryd.func36, Tryd.ntmps36
       go_wp2
       go_ret
       exact ⟨ret_int (by decide +kernel), rfl⟩)
set_option maxHeartbeats 400000 in
theorem first_any (p : Int → Bool) (w : World) (h : (num p == 0) = false) : Calls Tryd.prog 19 #[.int .u8 (num p)] w fun e w' => e = .returned (.int .i64 (leastP p)) ∧ w' = w := by
  have HT := hide (tz8_any (p 1) (p 2) (p 3) (p 4) (p 5) w h)
  unfold num
  generalize hx : numB (p 1) (p 2) (p 3) (p 4) (p 5) = x at *
  clear hx h
  go_enter Tryd.func19, Tryd.ntmps19
  go_wp2_with fail
  refine HT.out.mono ?_
  rintro e w1 ⟨rfl, rfl⟩
  go_wp2
  go_ret
  exact ⟨rfl, rfl⟩

theorem least_is (p : Int → Bool) (h : (num p == 0) = false) : (1 ≤ leastP p ∧ leastP p ≤ 5) ∧ p (leastP p) = true ∧ ∀ v, 1 ≤ v → v < leastP p → p v = false := by
  unfold leastP leastB
  cases h1 : p 1 with
  | true => simp only [if_true]; exact ⟨by omega, h1, fun v a b => by omega⟩
  | false =>
    cases h2 : p 2 with
    | true => simp only [Bool.false_eq_true, if_false, if_true]; exact ⟨by omega, h2, fun v a b => by
                have e : v = 1 := by omega
                rw [e]; exact h1⟩
    | false =>
      cases h3 : p 3 with
      | true => simp only [Bool.false_eq_true, if_false, if_true]; exact ⟨by omega, h3, fun v a b => by
                  have e : v = 1 ∨ v = 2 := by omega
                  rcases e with rfl | rfl
                  · exact h1
                  · exact h2⟩
      | false =>
        cases h4 : p 4 with
        | true => simp only [Bool.false_eq_true, if_false, if_true]; exact ⟨by omega, h4, fun v a b => by
                    have e : v = 1 ∨ v = 2 ∨ v = 3 := by omega
                    rcases e with rfl | rfl | rfl
                    · exact h1
                    · exact h2
                    · exact h3⟩
        | false =>
          cases h5 : p 5 with
          | true => simp only [Bool.false_eq_true, if_false, if_true]; exact ⟨by omega, h5, fun v a b => by
                      have e : v = 1 ∨ v = 2 ∨ v = 3 ∨ v = 4 := by omega
                      rcases e with rfl | rfl | rfl | rfl
                      · exact h1
                      · exact h2
                      · exact h3
                      · exact h4⟩
          | false =>
            exfalso
            unfold num at h
            rw [h1, h2, h3, h4, h5] at h
            revert h
            decide
theorem vbs_less {L : List Int} (h : vbsB L = true) : ∀ (j i : Nat) (hj : j < L.length) (_ : i < j), L[i] < L[j] := by
  unfold vbsB at h
  rw [Bool.and_eq_true] at h
  intro j
  induction j with
  | zero => intro i _ hi; omega
  | succ j ih =>
    intro i hj hi
    have := range_is hj h.2
    rw [vAt_succ hj, Bool.and_eq_true] at this
    have hs : L[j] < L[j + 1] := by simpa using this.2
    by_cases e : i = j
    · subst e; exact hs
    · have := ih i (by omega) (by omega)
      omega
/-- the first that lacks is the least that is missing -/
theorem lack_least {Ts : List Tm} {Rs : List Ru} {r : Ru} (ht : teamsB Ts = true) (hr : ruleB r = true) (h : (num (missP Ts Rs r) == 0) = false) : lackV Ts Rs r = leastP (missP Ts Rs r) := by
  obtain ⟨⟨l1, l2⟩, hp, hmin⟩ := least_is _ h
  generalize leastP (missP Ts Rs r) = lv at *
  unfold missP at hp
  rw [Bool.and_eq_true, ← covered_eq ht] at hp
  obtain ⟨k, hk, hke⟩ := List.getElem_of_mem (hasV_mem.1 hp.1)
  have hcv : coveredS Ts Rs r r.vb[k] = false := by rw [hke]; simpa using hp.2
  refine (lack_at hk hcv ?_).trans hke
  intro j hj hjk
  have hlt := vbs_less (rule_vbs hr) k j hk hjk
  have hb := vbs_in (rule_vbs hr) (hasV_mem.2 (List.getElem_mem hj))
  have := hmin r.vb[j] hb.1 (by omega)
  unfold missP at this
  rw [hasV_mem.2 (List.getElem_mem hj), ← covered_eq ht] at this
  simpa using this
end Go.Proofs.YtobijdenhbpdfaaDoor

