import Derived.Test.YtobijdenhbpdfaaDoorD5
import Derived.Laws.AppendOwn
namespace Go.Proofs.YtobijdenhbpdfaaDoor
open Go.RowKit Go.Deep

structure RuFew (r : Ru) : Prop where
  n : r.vb.length ≤ 10
  k : r.kd.size ≤ 1000
  t : r.tm.size ≤ 1000
  f : r.pf.size ≤ 10000

set_option maxHeartbeats 2000000 in
theorem l4DrawRule_any (ρ p : Nat) (bs : List UInt8) (w : World) (h : Rd w ρ p bs) (hp : p ≤ 90000000) :
    Calls Tryd.prog 31 #[.pointer (some ⟨ρ, 0, none⟩)] w fun e w' => ∃ (vv : Value) (r : Ru), e = .returned (.agg #[vv, .string r.kd, .string r.tm, .string r.pf]) ∧ IntsH w.heap.size w' vv r.vb ∧ RuFew r ∧ (∃ q, p ≤ q ∧ q ≤ p + 10 ∧ Rd w' ρ q bs) ∧ Tch ρ w w' := by
  have HS := hide (St.new h #[.slice none 0 0, .string ⟨#[]⟩, .string ⟨#[]⟩, .string ⟨#[]⟩] 27)
  have hlt := h.lt
  clear h
  go_enter Tryd.func31, Tryd.ntmps31
  go_wp2_with fail
  have hsz : w.heap.size < (w.alloc (.cells #[.slice none 0 0, .string ⟨#[]⟩, .string ⟨#[]⟩, .string ⟨#[]⟩] 27)).heap.size := by simp
  generalize hW0 : w.alloc _ = W0 at *
  clear hW0
  refine (l4DrawVerbs_any ρ p bs W0 HS.out.rd (by omega)).mono ?_
  rintro e w1 ⟨vv, L, rfl, hv, hl, ⟨q, hq1, hq2, hr1⟩, ht1⟩
  have HS1 := hide (HS.out.step hr1 ht1)
  have HV := hide (hv.mono (lo' := w.heap.size + 1) hsz)
  have HL := hide hl
  obtain ⟨va, vcap, rfl, _⟩ := hv.form
  clear hr1 ht1 HS hv hl hsz
  go_wp2_with fail
  refine (ofBuilt_any ρ _ bs _ _ 5 w1 HS1.out.rd (by omega) (by decide) (by decide) (by decide) (by decide)).mono ?_
  rintro e w2 ⟨k, rfl, hk, hr2, ht2⟩
  have HS2 := hide (HS1.out.step hr2 ht2)
  have HV2 := hide (HV.out.tch ht2 (by omega))
  have HK := hide hk
  clear hr2 ht2 HS1 hk HV
  go_wp2_with fail
  refine (ofBuilt_any ρ _ bs _ _ 6 w2 HS2.out.rd (by omega) (by decide) (by decide) (by decide) (by decide)).mono ?_
  rintro e w3 ⟨t, rfl, ht, hr3, ht3⟩
  have HS3 := hide (HS2.out.step hr3 ht3)
  have HV3 := hide (HV2.out.tch ht3 (by omega))
  have HTT := hide ht
  clear hr3 ht3 HS2 ht HV2
  go_wp2_with fail
  refine (ofBuilt_any ρ _ bs _ _ 5 w3 HS3.out.rd (by omega) (by decide) (by decide) (by decide) (by decide)).mono ?_
  rintro e w4 ⟨n, rfl, hn, hr4, ht4⟩
  have HS4 := hide (HS3.out.step hr4 ht4)
  have HV4 := hide (HV3.out.tch ht4 (by omega))
  have HN := hide hn
  clear hr4 ht4 HS3 hn HV3
  have hlt4 := HS4.out.box.lt
  have c0 := HS4.out.box.cell 0
  have c1 := HS4.out.box.cell 1
  have c2 := HS4.out.box.cell 2
  have c3 := HS4.out.box.cell 3
  have cf := HS4.out.box.free
  have hnw := HS4.out.nw
  have hne := HS4.out.ne
  have HX := hide (And.intro HS4.out.rd HS4.out.t)
  clear HS4
  go_wp2
  refine bodyPost_ret (v := .agg #[.slice (some va) L.length vcap, .string k, .string t, .string n]) (by simp [results, Tryd.results31, go_sem, c0, c1, c2, c3]) rfl ⟨_, ⟨L, k, t, n⟩, rfl, ?_, ⟨by have := HL.out; show L.length ≤ 10; omega, HK.out, HTT.out, by have := HN.out; show n.size ≤ 10000; omega⟩, ⟨q + 3, by omega, by omega, ?_⟩, ?_⟩
  · refine IntsH.mono (lo := w.heap.size + 1) ?_ (by omega)
    repeat (refine IntsH.setCell ?_ (by simp only []; omega) _)
    exact HV4.out
  · repeat (refine Rd.other ?_ hne _)
    exact HX.out.1
  · repeat (refine Tch.other ?_ hnw _)
    exact HX.out.2

theorem IntsH.news {lo : Nat} {w W : World} {ad : Addr} {cap : Nat} {L : List Int} (h : IntsH lo w (.slice (some ad) L.length cap) L) (hb : Below w.heap.size w W) : ∀ j u, (iv L)[j]? = some u → W.cell? (ad.add j) = some u := by
  intro j u hj
  have hl : j < L.length := by
    rcases Nat.lt_or_ge j L.length with h | h
    · exact h
    · rw [List.getElem?_eq_none (by unfold iv; rw [List.length_map]; exact h)] at hj; cases hj
  obtain ⟨b, off, e, hlt, hc⟩ := h.at'.full' (by omega)
  injection e with e
  subst e
  rw [Go.WideShapes.add_plain, hb.cell (p := ⟨b, _, none⟩) hlt, hc j hl]
  unfold iv at hj
  rw [List.getElem?_map, List.getElem?_eq_getElem hl] at hj
  simpa using hj
theorem iv_oneCell (L : List Int) : ∀ u ∈ iv L, u.oneCell' = true := fun u hu => by
  obtain ⟨x, _, rfl⟩ := List.mem_map.1 hu
  rfl
theorem owns_some {base : Nat} {e : TypeId} {sz n : Nat} {W : World} {v : Value} {cs : List Value} (h : W.ownsRow base e sz v n cs) (hn : v ≠ .slice none 0 0) : ∃ a cap, v = .slice (some a) n cap := by
  rcases h.2 with ⟨hv, _⟩ | ⟨g, cap, cur, hv, _⟩
  · exact absurd hv hn
  · exact ⟨_, _, hv⟩
theorem owns_made {base : Nat} (W : World) (g : Nat) (e : TypeId) (sz : Nat) (hg : W.heap.size = g) (hb : base ≤ g) : (W.alloc (.cells #[] e)).ownsRow base e sz (.slice (some ⟨g, 0, none⟩) 0 0) 0 [] := by
  subst hg
  exact World.ownsRow_made (base := base) (e := e) (size := sz) W #[] 0 hb (Nat.zero_le _) (by simp)
theorem stopHere {P : Prop} (h : Hid P) : P := h.out
theorem three_al (X : World) (a b c : Obj) : Below X.heap.size X (((X.alloc a).alloc b).alloc c) := (((Below.refl _ _).alloc (Nat.le_refl _) _).alloc (by simp) _).alloc (by simp; omega) _

set_option maxHeartbeats 2000000 in
theorem l5Rule_any (lo : Nat) (r : Ru) (vv : Value) (w : World) (hv : IntsH lo w vv r.vb) (hf : RuFew r) :
    Calls Tryd.prog 15 #[.agg #[vv, .string r.kd, .string r.tm, .string r.pf]] w fun e w' => ∃ v', e = .returned (.agg #[v', .string r.kd, .string r.tm, .string r.pf]) ∧ Below w.heap.size w w' ∧ IntsH w.heap.size w' v' r.vb := by
  obtain ⟨i0, hi, hz0, hz1, hz2⟩ := info_parts Tryd.info3
  have HI := hide (And.intro hi (And.intro hz0 (And.intro hz1 hz2)))
  clear hi hz0 hz1 hz2
  have HV := hide hv
  obtain ⟨ad, cap, rfl, hcap⟩ := hv.form
  have hn := hf.n
  clear hv
  go_enter Tryd.func15, Tryd.ntmps15
  go_wp2_with (at_builtin; apply stopHere)
  unfold Hid
  (refine wpList_append_own _ rfl (.tmp 3) (.tmp 5) 25 rfl (w.heap.size + 2) 3 i0 (.int .i64 0) 1 8 Tryd.underlying25 HI.out.1 HI.out.2.1 HI.out.2.2.1 HI.out.2.2.2 rfl (by decide) _ 0 [] rfl (owns_made _ _ 3 1 (by simp) (by omega)) ad r.vb.length cap (iv r.vb) rfl (by unfold iv; rw [List.length_map, Nat.mul_one]) (HV.out.news (three_al _ _ _ _)) (iv_oneCell _) (by unfold maxLen; omega) (by omega) (by simp) ?_; intro v' w4 hown4 hgrow4 hnil4)
  have hne : v' ≠ .slice none 0 0 := fun e => by have := (hnil4.1 e).1; cases this
  obtain ⟨a', cap', rfl⟩ := owns_some hown4 hne
  rw [Nat.zero_add, List.nil_append] at hown4
  have HV4 : Hid (IntsH (w.heap.size + 2) w4 (.slice (some a') r.vb.length cap') r.vb) := IntsH.owns hown4
  have hB : Below (w.heap.size + 2) _ w4 := owns_grown (owns_made _ (w.heap.size + 1 + 1) 3 1 (by simp) (by omega)) hgrow4 (by simp)
  have HB : Hid (Below w.heap.size w w4) := (three_al _ _ _ _).trans (hB.mono (by omega))
  have hz : w.heap.size + 1 < w4.heap.size := by have := hB.size; simp at this; omega
  have b1 : Box w4 w.heap.size #[.slice (some ad) r.vb.length cap, .string r.kd, .string r.tm, .string r.pf] := (((Box.new w _ 27 w.heap.size rfl).on (one_al _ _)).on (one_al _ _)).below hB (by omega)
  have b2 : Box w4 (w.heap.size + 1) #[.slice none 0 0, .string ⟨#[]⟩, .string ⟨#[]⟩, .string ⟨#[]⟩] := ((Box.new _ _ 27 (w.heap.size + 1) (by simp)).on (one_al _ _)).below hB (by omega)
  have c0 := b1.cell 0
  have c1 := b1.cell 1
  have c2 := b1.cell 2
  have c3 := b1.cell 3
  have d0 := b2.cell 0
  have d1 := b2.cell 1
  have d2 := b2.cell 2
  have d3 := b2.cell 3
  have f0 := b1.free
  have f1 := b2.free
  clear b1 b2
  clear hown4 hB hgrow4 hnil4 hne
  simp only [Nat.zero_add]
  clear hf
  go_wp2
  refine bodyPost_ret (v := .agg #[.slice (some a') r.vb.length cap', .string r.kd, .string r.tm, .string r.pf]) (by simp [results, Tryd.results15, go_sem, d0, d1, d2, d3]) rfl ⟨_, rfl, ?_, ?_⟩
  · repeat (refine Below.setCell ?_ (by simp only []; omega) _)
    exact HB.out
  · refine IntsH.mono (lo := w.heap.size + 2) ?_ (by omega)
    repeat (refine IntsH.setCell ?_ (by simp only []; omega) _)
    exact HV4.out
end Go.Proofs.YtobijdenhbpdfaaDoor

