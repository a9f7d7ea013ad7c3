import Derived.Test.YtobijdenhbpdfaaDoorD4
import Derived.Test.YtobijdenhbpdfaaDoorT11
namespace Go.Proofs.YtobijdenhbpdfaaDoor
open Go.RowKit Go.Deep

theorem IntsIn.tch {lo ρ : Nat} {w w' : World} {v : Value} {L : List Int} (h : IntsIn lo w v L) (ht : Tch ρ w w') (hl : ρ < lo) : IntsIn lo w' v L := by
  rcases h with h | ⟨b, off, cap, h1, h2, h3, h4, h5, h6⟩
  · exact Or.inl h
  · exact Or.inr ⟨b, off, cap, h1, h2, h3, Nat.lt_of_lt_of_le h4 ht.size, h5, fun i hi => by rw [ht.cell (p := ⟨b, _, none⟩) h4 (by show b ≠ ρ; omega)]; exact h6 i hi⟩
theorem TmsAt.tch {lo ρ : Nat} {w w' : World} {v : Value} {Ts : List Tm} (h : TmsAt lo w v Ts) (ht : Tch ρ w w') (hl : ρ < lo) : TmsAt lo w' v Ts := by
  rcases h with h | ⟨b, off, cap, h1, h2, h3, h4, h5, h6, h7⟩
  · exact Or.inl h
  · refine Or.inr ⟨b, off, cap, h1, h2, h3, Nat.lt_of_lt_of_le h4 ht.size, h5, h6, fun i hi => ?_⟩
    obtain ⟨hs, hc⟩ := h7 i hi
    have e : ∀ o, w'.cell? ⟨b, o, none⟩ = w.cell? ⟨b, o, none⟩ := fun o => ht.cell (p := ⟨b, o, none⟩) h4 (by show b ≠ ρ; omega)
    exact ⟨hs, by rw [e]; exact hc.c0, by rw [e]; exact hc.c1⟩
theorem RusAt.tch {lo ρ : Nat} {w w' : World} {v : Value} {Rs : List Ru} (h : RusAt lo w v Rs) (ht : Tch ρ w w') (hl : ρ < lo) : RusAt lo w' v Rs := by
  rcases h with h | ⟨b, off, cap, h1, h2, h3, h4, h5, h6, h7⟩
  · exact Or.inl h
  · refine Or.inr ⟨b, off, cap, h1, h2, h3, Nat.lt_of_lt_of_le h4 ht.size, h5, h6, fun i hi => ?_⟩
    obtain ⟨hs, vv, hc, hv⟩ := h7 i hi
    have e : ∀ o, w'.cell? ⟨b, o, none⟩ = w.cell? ⟨b, o, none⟩ := fun o => ht.cell (p := ⟨b, o, none⟩) h4 (by show b ≠ ρ; omega)
    exact ⟨hs, vv, ⟨by rw [e]; exact hc.c0, by rw [e]; exact hc.c1, by rw [e]; exact hc.c2, by rw [e]; exact hc.c3⟩, hv.tch ht hl⟩

/-- a row of a call's own making, whatever lies in it -/
theorem owns_lt {base : Nat} {e : TypeId} {sz n : Nat} {W : World} {v : Value} {cs : List Value} (h : W.ownsRow base e sz v n cs) {g : Nat} (hg : v.ownBlock = some g) : g < W.heap.size ∧ base ≤ g := by
  rcases h.2 with ⟨hv, _⟩ | ⟨g', cap, cur, hv, h1, h2, _⟩
  · rw [hv] at hg; cases hg
  · rw [hv] at hg
    have e : g' = g := by simpa [Value.ownBlock] using hg
    subst e
    rcases Nat.lt_or_ge g' W.heap.size with h | h
    · exact ⟨h, h1⟩
    · rw [Array.getElem?_eq_none h] at h2; cases h2
theorem owns_tch {base ρ : Nat} {e : TypeId} {sz n : Nat} {W W' : World} {v : Value} {cs : List Value} (h : W.ownsRow base e sz v n cs) (ht : Tch ρ W W') (hl : ρ < base) : W'.ownsRow base e sz v n cs := by
  refine ⟨h.1, ?_⟩
  have hlt := fun g hg => @owns_lt base e sz n W v cs h g hg
  rcases h.2 with hv | ⟨g, cap, cur, hv, h1, h2, h3⟩
  · exact Or.inl hv
  · have hg := hlt g (by rw [hv]; rfl)
    exact Or.inr ⟨g, cap, cur, hv, h1, by rw [ht.block g hg.1 (by omega)]; exact h2, h3⟩
theorem owns_below {base : Nat} {e : TypeId} {sz n : Nat} {W W' : World} {v : Value} {cs : List Value} (h : W.ownsRow base e sz v n cs) (hb : Below W.heap.size W W') : W'.ownsRow base e sz v n cs := by
  refine ⟨h.1, ?_⟩
  have hlt := fun g hg => @owns_lt base e sz n W v cs h g hg
  rcases h.2 with hv | ⟨g, cap, cur, hv, h1, h2, h3⟩
  · exact Or.inl hv
  · have hg := hlt g (by rw [hv]; rfl)
    exact Or.inr ⟨g, cap, cur, hv, h1, by rw [hb.block g hg.1]; exact h2, h3⟩
theorem owns_grown {base : Nat} {e : TypeId} {sz n : Nat} {W w' : World} {v : Value} {cs : List Value} (h : W.ownsRow base e sz v n cs) (hg : W.grownBy w' v.ownBlock) (hb : base ≤ W.heap.size) : Below base W w' := by
  have hlt := fun g hg => @owns_lt base e sz n W v cs h g hg
  exact ⟨hg.os, hg.tape, hg.output, hg.size, fun k hk => hg.block k (by omega) fun e => by have := (hlt k e.symm).2; omega⟩
/-- nothing below base but ρ -/
theorem Tch.belowB {ρ base : Nat} {a b c : World} (h : Tch ρ a b) (hb : Below base b c) (hs : a.heap.size ≤ base) : Tch ρ a c :=
  ⟨hb.os.trans h.os, hb.tape.trans h.tape, hb.output.trans h.output, Nat.le_trans h.size hb.size, fun k hk hn => (hb.block k (by omega)).trans (h.block k hk hn)⟩
theorem Rd.belowB {w w' : World} {ρ p base : Nat} {bs : List UInt8} (h : Rd w ρ p bs) (hb : Below base w w') (hs : ρ < base) : Rd w' ρ p bs := by
  obtain ⟨v, h1, h2⟩ := h.code
  refine ⟨Nat.lt_of_lt_of_le h.lt hb.size, ⟨v, (hb.cell (p := ⟨ρ, 0, none⟩) hs).trans h1, ?_⟩, (hb.cell (p := ⟨ρ, 1, none⟩) hs).trans h.place, fun i => (hb.frozen (p := ⟨ρ, i, none⟩) hs).trans (h.free i)⟩
  rcases h2 with h2 | ⟨b, off, cap, h1, h2, h3, h4, h5⟩
  · exact Or.inl h2
  · exact Or.inr ⟨b, off, cap, h1, h2, h3, h4, fun i hi => (hb.cell (p := ⟨b, off + i, none⟩) (by show b < base; omega)).trans (h5 i hi)⟩

def iv (L : List Int) : List Value := L.map (Value.int .i64)
theorem owns_ints {base : Nat} {W : World} {v : Value} {L : List Int} (h : W.ownsRow base 3 1 v L.length (iv L)) : IntsIn base W v L ∧ ∃ a cap, v = .slice a L.length cap ∧ L.length ≤ cap := by
  rcases h.2 with ⟨hv, hn⟩ | ⟨g, cap, cur, hv, h1, h2, h3, h4, h5, h6⟩
  · exact ⟨Or.inl ⟨none, 0, hv, List.length_eq_zero_iff.1 hn⟩, none, 0, by rw [hn]; exact hv, by omega⟩
  · refine ⟨?_, _, cap, hv, h3⟩
    by_cases hR : L = []
    · subst hR; exact Or.inl ⟨_, _, hv, rfl⟩
    · have hg : g < W.heap.size := by
        rcases Nat.lt_or_ge g W.heap.size with h | h
        · exact h
        · rw [Array.getElem?_eq_none h] at h2; cases h2
      refine Or.inr ⟨g, 0, cap, hv, hR, Nat.le_trans h3 h4, hg, h1, fun i hi => ?_⟩
      rw [Nat.zero_add, cell_of_row W g i cur 3 (0, 0) h2]
      have : (cur.toList.take (L.length * 1))[i]? = (iv L)[i]? := by rw [h6]
      rw [List.getElem?_take_of_lt (by omega)] at this
      simpa [hi, iv] using this
theorem iv_snoc (L : List Int) (x : Int) : iv (L ++ [x]) = iv L ++ [.int .i64 x] := by unfold iv; rw [List.map_append]; rfl
theorem int_oneCell (x : Int) : ∀ u ∈ [Value.int .i64 x], u.oneCell' = true := fun u hu => by rw [List.mem_singleton.1 hu]; rfl
theorem owns_form {base : Nat} {e : TypeId} {sz n : Nat} {W : World} {v : Value} {cs : List Value} (h : W.ownsRow base e sz v n cs) : ∃ a cap, v = .slice a n cap := by
  rcases h.2 with ⟨hv, hn⟩ | ⟨g, cap, cur, hv, _⟩
  · rw [hn]; exact ⟨_, _, hv⟩
  · exact ⟨_, _, hv⟩

/-- ints that are there: not nil, with room for what they are -/
structure IntsH (lo : Nat) (w : World) (v : Value) (L : List Int) : Prop where
  at' : IntsIn lo w v L
  form : ∃ ad cap, v = .slice (some ad) L.length cap ∧ L.length ≤ cap
theorem IntsH.tch {lo ρ : Nat} {w w' : World} {v : Value} {L : List Int} (h : IntsH lo w v L) (ht : Tch ρ w w') (hl : ρ < lo) : IntsH lo w' v L := ⟨h.at'.tch ht hl, h.form⟩
theorem IntsH.mono {lo lo' : Nat} {w : World} {v : Value} {L : List Int} (h : IntsH lo w v L) (hl : lo' ≤ lo) : IntsH lo' w v L := ⟨h.at'.mono hl, h.form⟩
theorem IntsH.setCell {lo : Nat} {w : World} {v : Value} {L : List Int} (h : IntsH lo w v L) {p : Addr} (hp : p.block < lo) (u : Value) : IntsH lo (w.setCell p u) v L := ⟨h.at'.setCell hp u, h.form⟩
theorem IntsH.below {lo : Nat} {w w' : World} {v : Value} {L : List Int} (h : IntsH lo w v L) (hb : Below w.heap.size w w') : IntsH lo w' v L := ⟨h.at'.below hb, h.form⟩
theorem IntsH.owns {base : Nat} {W : World} {a : Addr} {n cap : Nat} {L : List Int} (h : W.ownsRow base 3 1 (.slice (some a) n cap) L.length (iv L)) : IntsH base W (.slice (some a) n cap) L := by
  obtain ⟨h1, a', cap', h2, h3⟩ := owns_ints h
  injection h2 with e1 e2 e3
  exact ⟨h1, a, cap', by rw [e2, e3], h3⟩

set_option maxRecDepth 20000 in
set_option maxHeartbeats 2000000 in
theorem l4DrawVerbs_any (ρ p : Nat) (bs : List UInt8) (w : World) (h : Rd w ρ p bs) (hp : p ≤ 100000000) :
    Calls Tryd.prog 53 #[.pointer (some ⟨ρ, 0, none⟩)] w fun e w' => ∃ (v : Value) (L : List Int), e = .returned v ∧ IntsH w.heap.size w' v L ∧ L.length ≤ 5 ∧ (∃ q, p ≤ q ∧ q ≤ p + 6 ∧ Rd w' ρ q bs) ∧ Tch ρ w w' := by
  obtain ⟨i0, hi, hz0, hz1, hz2⟩ := info_parts Tryd.info3
  have HI := hide (And.intro hi (And.intro hz0 (And.intro hz1 hz2)))
  clear hi hz0 hz1 hz2
  have HR := hide h
  have hlt := h.lt
  clear h
  go_enter Tryd.func53, Tryd.ntmps53
  go_wp2
  go_loopw [3, 4] (fun v i wr => ∃ (k : Nat) (L : List Int), i = .int .i64 k ∧ 1 ≤ k ∧ k ≤ 6 ∧ L.length < k ∧ (∃ ad cap, v = .slice (some ad) L.length cap) ∧ wr.ownsRow w.heap.size 3 1 v L.length (iv L) ∧ (∃ q, p ≤ q ∧ q + 1 = p + k ∧ Rd wr ρ q bs) ∧ Tch ρ w wr) (fun _ i _ => 6 - (intOf i).toNat)
  case atStart => exact ⟨1, [], rfl, by decide, by decide, by decide, ⟨_, _, rfl⟩, World.ownsRow_made (base := w.heap.size) (e := 3) (size := 1) w #[] 0 (Nat.le_refl _) (Nat.zero_le _) (by simp), ⟨p, Nat.le_refl _, rfl, HR.out.below (one_al _ _)⟩, Tch.below (one_al _ _)⟩
  case round =>
    obtain ⟨k, L, rfl, hk1, hk2, hL, ⟨va, vcap, rfl⟩, hown, ⟨q, hq1, hq2, hq3⟩, ht⟩ := hrel
    have HO := hide hown
    have HQ := hide hq3
    have HT := hide ht
    clear hown hq3 ht
    by_cases hlt : k < 6
    · go_wp2_with fail
      refine (pick_any ρ q bs 2 wr HQ.out (by omega) (by decide) (by decide)).mono ?_
      rintro e w1 ⟨x, rfl, hx0, hx1, hr1, ht1⟩
      have HO1 := hide (owns_tch HO.out ht1 (by assumption))
      have HT1 := hide (HT.out.trans ht1)
      have HR1 := hide hr1
      clear hr1 ht1 HO HT HQ
      by_cases hx : x = 0
      · subst hx
        go_wp2_with (at_builtin; refine wpList_append_lies _ rfl (.tmp 13) (.tmp 15) 25 rfl w.heap.size 3 i0 (.int .i64 0) 1 8 Tryd.underlying25 HI.out.1 HI.out.2.1 HI.out.2.2.1 HI.out.2.2.2 rfl (by decide) _ _ _ rfl (owns_below HO1.out (one_al _ _)) ⟨w1.heap.size, 0, none⟩ 1 1 [.int .i64 k] rfl rfl (cell_new1 _ _ _ _ rfl) (int_oneCell _) (by decide) (by unfold maxLen; omega) (by omega) (by have := HT1.out.size; simp; omega) _ rfl ?_; intro g cap1 w4 hown4 hgrow4 hat4 hlt4)
        have HB : Hid (Below w.heap.size (w1.alloc (.cells #[.int .i64 k] 3)) w4) := owns_grown (owns_below HO1.out (one_al _ _)) hgrow4 (by have := HT1.out.size; simp; omega)
        have HO4 := hide hown4
        clear hown4 hgrow4 hat4 hlt4
        go_roundw
        case rel => exact ⟨k + 1, L ++ [(k : Int)], by go_num, by omega, by omega, by rw [List.length_append, List.length_singleton]; omega, ⟨_, cap1, by rw [List.length_append]; rfl⟩, by rw [iv_snoc, List.length_append]; exact HO4.out, ⟨q + 1, by omega, by omega, (HR1.out.below (one_al _ _)).belowB HB.out (by assumption)⟩, (HT1.out.trans (Tch.below (one_al _ _))).belowB HB.out (Nat.le_refl _)⟩
        case measure => simp [intOf]; omega
      · have hx2 : (x == 0) = false := by rw [beq_eq_false_iff_ne]; exact hx
        go_wp2
        go_roundw
        case rel => exact ⟨k + 1, L, by go_num, by omega, by omega, by omega, ⟨_, _, rfl⟩, HO1.out, ⟨q + 1, by omega, by omega, HR1.out⟩, HT1.out⟩
        case measure => simp [intOf]; omega
    · have hk6 : k = 6 := by omega
      subst hk6
      by_cases hL0 : L.length = 0
      · rw [hL0] at HO
        go_wp2_with fail
        refine (pick_any ρ q bs 5 wr HQ.out (by omega) (by decide) (by decide)).mono ?_
        rintro e w1 ⟨x, rfl, hx0, hx1, hr1, ht1⟩
        have HT1 := hide (HT.out.trans ht1)
        have HR1 := hide hr1
        clear hr1 ht1 HO HT HQ
        have hwx : wrap64 (1 + x) = 1 + x := by unfold wrap64; omega
        go_wp2
        go_ret
        refine ⟨_, [1 + x], rfl, ⟨Or.inr ⟨w1.heap.size, 0, 1, rfl, by simp, by unfold maxLen; simp, by simp, HT1.out.size, fun i hi => ?_⟩, _, 1, rfl, by simp⟩, by simp, ⟨q + 1, by omega, by omega, HR1.out.below (one_al _ _)⟩, HT1.out.trans (Tch.below (one_al _ _))⟩
        have e : i = 0 := by simp at hi; omega
        subst e
        simp
      · have hb : ((L.length : Int) == 0) = false := by rw [beq_eq_false_iff_ne]; omega
        go_wp2
        go_ret
        exact ⟨_, L, rfl, IntsH.owns HO.out, by omega, ⟨q, hq1, by omega, HQ.out⟩, HT.out⟩
end Go.Proofs.YtobijdenhbpdfaaDoor

