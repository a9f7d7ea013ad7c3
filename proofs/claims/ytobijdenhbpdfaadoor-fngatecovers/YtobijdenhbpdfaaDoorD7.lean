import Derived.Test.YtobijdenhbpdfaaDoorD6
namespace Go.Proofs.YtobijdenhbpdfaaDoor
open Go.RowKit Go.Deep

theorem IntsH.box {w : World} {β lo : Nat} {cs : Array Value} (L : List Int) (n : Nat) (hb : Box w β cs) (hcs : cs.toList = iv L) (hlo : lo ≤ β) (hL : L.length ≤ 1000) (hn : L.length = n) : IntsH lo w (.slice (some ⟨β, 0, none⟩) n n) L := by
  subst hn
  refine ⟨?_, _, L.length, rfl, Nat.le_refl _⟩
  by_cases h0 : L = []
  · subst h0; exact Or.inl ⟨_, _, rfl, rfl⟩
  · refine Or.inr ⟨β, 0, L.length, rfl, h0, by unfold maxLen; omega, hb.lt, hlo, fun i hi => ?_⟩
    rw [Nat.zero_add, hb.cell i, ← Array.getElem?_toList, hcs]
    unfold iv
    rw [List.getElem?_map, List.getElem?_eq_getElem hi]
    rfl

structure Seven (w W : World) (a0 a1 a2 a3 a4 a5 c : Array Value) : Prop where
  al : Below w.heap.size w W
  b0 : Box W w.heap.size a0
  b1 : Box W (w.heap.size + 1) a1
  b2 : Box W (w.heap.size + 1 + 1) a2
  b3 : Box W (w.heap.size + 1 + 1 + 1) a3
  b4 : Box W (w.heap.size + 1 + 1 + 1 + 1) a4
  b5 : Box W (w.heap.size + 1 + 1 + 1 + 1 + 1) a5
  b6 : Box W (w.heap.size + 1 + 1 + 1 + 1 + 1 + 1) c
theorem seven (w : World) (a0 a1 a2 a3 a4 a5 c : Array Value) (t t' : TypeId) :
    Seven w (((((((w.alloc (.cells a0 t)).alloc (.cells a1 t)).alloc (.cells a2 t)).alloc (.cells a3 t)).alloc (.cells a4 t)).alloc (.cells a5 t)).alloc (.cells c t')) a0 a1 a2 a3 a4 a5 c := by
  generalize h0 : w.alloc (.cells a0 t) = w0
  have k0 : Box w0 w.heap.size a0 := h0 ▸ Box.new w a0 t _ rfl
  have l0 : Below w.heap.size w w0 := h0 ▸ one_al _ _
  have s0 : w0.heap.size = w.heap.size + 1 := by rw [← h0]; simp
  clear h0
  generalize h1 : w0.alloc (.cells a1 t) = w1
  have k1 : Box w1 (w.heap.size + 1) a1 := h1 ▸ Box.new w0 a1 t _ s0
  have m1 : Below w0.heap.size w0 w1 := h1 ▸ one_al _ _
  have s1 : w1.heap.size = w.heap.size + 1 + 1 := by rw [← h1]; simp [s0]
  clear h1
  generalize h2 : w1.alloc (.cells a2 t) = w2
  have k2 : Box w2 (w.heap.size + 1 + 1) a2 := h2 ▸ Box.new w1 a2 t _ s1
  have m2 : Below w1.heap.size w1 w2 := h2 ▸ one_al _ _
  have s2 : w2.heap.size = w.heap.size + 1 + 1 + 1 := by rw [← h2]; simp [s1]
  clear h2
  generalize h3 : w2.alloc (.cells a3 t) = w3
  have k3 : Box w3 (w.heap.size + 1 + 1 + 1) a3 := h3 ▸ Box.new w2 a3 t _ s2
  have m3 : Below w2.heap.size w2 w3 := h3 ▸ one_al _ _
  have s3 : w3.heap.size = w.heap.size + 1 + 1 + 1 + 1 := by rw [← h3]; simp [s2]
  clear h3
  generalize h4 : w3.alloc (.cells a4 t) = w4
  have k4 : Box w4 (w.heap.size + 1 + 1 + 1 + 1) a4 := h4 ▸ Box.new w3 a4 t _ s3
  have m4 : Below w3.heap.size w3 w4 := h4 ▸ one_al _ _
  have s4 : w4.heap.size = w.heap.size + 1 + 1 + 1 + 1 + 1 := by rw [← h4]; simp [s3]
  clear h4
  generalize h5 : w4.alloc (.cells a5 t) = w5
  have k5 : Box w5 (w.heap.size + 1 + 1 + 1 + 1 + 1) a5 := h5 ▸ Box.new w4 a5 t _ s4
  have m5 : Below w4.heap.size w4 w5 := h5 ▸ one_al _ _
  have s5 : w5.heap.size = w.heap.size + 1 + 1 + 1 + 1 + 1 + 1 := by rw [← h5]; simp [s4]
  clear h5
  generalize h6 : w5.alloc (.cells c t') = w6
  have k6 : Box w6 (w.heap.size + 1 + 1 + 1 + 1 + 1 + 1) c := h6 ▸ Box.new w5 c t' _ s5
  have m6 : Below w5.heap.size w5 w6 := h6 ▸ one_al _ _
  clear h6
  have f : Below w.heap.size w w6 := (((((l0.trans (m1.mono l0.size)).trans (m2.mono (by omega))).trans (m3.mono (by omega))).trans (m4.mono (by omega))).trans (m5.mono (by omega))).trans (m6.mono (by omega))
  exact ⟨f, (((((k0.on m1).on m2).on m3).on m4).on m5).on m6, ((((k1.on m2).on m3).on m4).on m5).on m6, (((k2.on m3).on m4).on m5).on m6, ((k3.on m4).on m5).on m6, (k4.on m5).on m6, k5.on m6, k6⟩

set_option maxRecDepth 20000 in
set_option maxHeartbeats 4000000 in
theorem l4AnyRule_any (ρ p : Nat) (bs : List UInt8) (w : World) (h : Rd w ρ p bs) (hp : p ≤ 80000000) :
    Calls Tryd.prog 13 #[.pointer (some ⟨ρ, 0, none⟩)] w fun e w' => ∃ (vv : Value) (r : Ru), e = .returned (.agg #[vv, .string r.kd, .string r.tm, .string r.pf]) ∧ IntsH w.heap.size w' vv r.vb ∧ RuFew r ∧ (∃ q, p ≤ q ∧ q ≤ p + 20 ∧ Rd w' ρ q bs) ∧ Tch ρ w w' := by
  have HS := hide (St.new h #[.slice none 0 0, .string ⟨#[]⟩, .string ⟨#[]⟩, .string ⟨#[]⟩] 27)
  have hlt := h.lt
  clear h
  go_enter Tryd.func13, Tryd.ntmps13
  go_wp2_with fail
  have hsz : w.heap.size < (w.alloc (.cells #[.slice none 0 0, .string ⟨#[]⟩, .string ⟨#[]⟩, .string ⟨#[]⟩] 27)).heap.size := by simp
  generalize hW0 : w.alloc _ = W0 at *
  clear hW0
  refine (l4DrawRule_any ρ p bs W0 HS.out.rd (by omega)).mono ?_
  rintro e w1 ⟨vv, r, rfl, hv, hf, ⟨q, hq1, hq2, hr1⟩, ht1⟩
  have HS1 := hide (HS.out.step hr1 ht1)
  have HV := hide (hv.mono (lo' := w.heap.size + 1) hsz)
  have HF := hide hf
  have hw1 : w.heap.size < w1.heap.size := Nat.lt_of_lt_of_le hsz ht1.size
  obtain ⟨va, vcap, rfl, _⟩ := hv.form
  clear hr1 ht1 HS hv hf hsz
  go_wp2_with fail
  have hb0 := Box.new w1 #[.slice (some va) r.vb.length vcap, .string r.kd, .string r.tm, .string r.pf] 27 w1.heap.size rfl
  have ha0 := one_al w1 (.cells #[.slice (some va) r.vb.length vcap, .string r.kd, .string r.tm, .string r.pf] 27)
  have HS1' := hide (HS1.out.step (HS1.out.rd.below ha0) (Tch.below ha0))
  have HB1 := hide hb0
  have HT1 := hide (Tch.below (ρ := ρ) ha0)
  clear hb0 ha0 HS1
  generalize hW1 : w1.alloc _ = W1 at *
  clear hW1
  refine (pick_any ρ q bs 24 W1 HS1'.out.rd (by omega) (by decide) (by decide)).mono ?_
  rintro e w2 ⟨x, rfl, hx0, hx1, hr2, ht2⟩
  have HS2 := hide (HS1'.out.step hr2 ht2)
  have HB2 := hide (ht2.box HB1.out (by omega))
  have HT2 := hide (HT1.out.trans ht2)
  clear hr2 ht2 HS1' HB1 HT1
  by_cases e0 : x = 0
  · subst e0
    go_wp2_with fail
    have K := hide (seven w2 #[] #[.int .i64 2, .int .i64 1] #[.int .i64 0] #[.int .i64 6] #[.int .i64 1, .int .i64 1] #[.int .i64 (-1)] #[.slice (some ⟨w2.heap.size, 0, none⟩) 0 0, .slice (some ⟨w2.heap.size + 1, 0, none⟩) 2 2, .slice (some ⟨w2.heap.size + 1 + 1, 0, none⟩) 1 1, .slice (some ⟨w2.heap.size + 1 + 1 + 1, 0, none⟩) 1 1, .slice (some ⟨w2.heap.size + 1 + 1 + 1 + 1, 0, none⟩) 2 2, .slice (some ⟨w2.heap.size + 1 + 1 + 1 + 1 + 1, 0, none⟩) 1 1] 3 25)
    generalize hW7 : World.alloc _ _ = W7 at *
    clear hW7
    have HS3 := hide (HS2.out.step (HS2.out.rd.below K.out.al) (Tch.below K.out.al))
    have HB3 := hide (HB2.out.on K.out.al)
    have HT3 := hide (HT2.out.trans (Tch.below K.out.al))
    have hgl := HB2.out.lt
    clear HS2 HB2 HT2
    refine (pick_any ρ (q + 1) bs 6 W7 HS3.out.rd (by omega) (by decide) (by decide)).mono ?_
    rintro e w4 ⟨y, rfl, hy0, hy1, hr4, ht4⟩
    have ne0 : ∀ k, w2.heap.size ≤ k → k ≠ ρ := fun k hk => by omega
    have HS4 := hide (HS3.out.step hr4 ht4)
    have HB4 := hide (ht4.box HB3.out (by omega))
    have HT4 := hide (HT3.out.trans ht4)
    have HK0 := hide (IntsH.box (lo := w1.heap.size + 1) [] 0 (ht4.box K.out.b0 (ne0 _ (by omega))) rfl (by omega) (by simp) rfl)
    have HK1 := hide (IntsH.box (lo := w1.heap.size + 1) [2, 1] 2 (ht4.box K.out.b1 (ne0 _ (by omega))) rfl (by omega) (by simp) rfl)
    have HK2 := hide (IntsH.box (lo := w1.heap.size + 1) [0] 1 (ht4.box K.out.b2 (ne0 _ (by omega))) rfl (by omega) (by simp) rfl)
    have HK3 := hide (IntsH.box (lo := w1.heap.size + 1) [6] 1 (ht4.box K.out.b3 (ne0 _ (by omega))) rfl (by omega) (by simp) rfl)
    have HK4 := hide (IntsH.box (lo := w1.heap.size + 1) [1, 1] 2 (ht4.box K.out.b4 (ne0 _ (by omega))) rfl (by omega) (by simp) rfl)
    have HK5 := hide (IntsH.box (lo := w1.heap.size + 1) [-1] 1 (ht4.box K.out.b5 (ne0 _ (by omega))) rfl (by omega) (by simp) rfl)
    have kl := ht4.box K.out.b6 (ne0 _ (by omega))
    clear hr4 ht4 HS3 HB3 HT3 K
    have hy : y = 0 ∨ y = 1 ∨ y = 2 ∨ y = 3 ∨ y = 4 ∨ y = 5 := by omega
    have g0 := HB4.out.cell 0
    have g1 := HB4.out.cell 1
    have g2 := HB4.out.cell 2
    have g3 := HB4.out.cell 3
    have gf := HB4.out.free
    have gl := HB4.out.lt
    have c0 := HS4.out.box.cell 0
    have c1 := HS4.out.box.cell 1
    have c2 := HS4.out.box.cell 2
    have c3 := HS4.out.box.cell 3
    have cf := HS4.out.box.free
    have cl := HS4.out.box.lt
    have HX := hide (And.intro HS4.out.rd (And.intro HS4.out.t HT4.out))
    clear HS4 HB4 HT4
    rcases hy with rfl | rfl | rfl | rfl | rfl | rfl
    · have j0 := kl.cell 0
      clear kl
      go_wp2
      refine bodyPost_ret (v := .agg #[.slice (some ⟨w2.heap.size, 0, none⟩) 0 0, .string r.kd, .string r.tm, .string r.pf]) (by simp [results, Tryd.results13, go_sem, c0, c1, c2, c3]) rfl ⟨_, ⟨[], r.kd, r.tm, r.pf⟩, rfl, ?_, ⟨by simp, HF.out.k, HF.out.t, HF.out.f⟩, ⟨q + 1 + 1, by omega, by omega, ?_⟩, ?_⟩
      · refine IntsH.mono (lo := w1.heap.size + 1) ?_ (by omega)
        repeat (refine IntsH.setCell ?_ (by simp only []; omega) _)
        exact HK0.out
      · repeat (refine Rd.other ?_ (by omega) _)
        exact HX.out.1
      · repeat (refine Tch.other ?_ (by omega) _)
        exact HX.out.2.1
    · have j0 := kl.cell 1
      clear kl
      go_wp2
      refine bodyPost_ret (v := .agg #[.slice (some ⟨w2.heap.size + 1, 0, none⟩) 2 2, .string r.kd, .string r.tm, .string r.pf]) (by simp [results, Tryd.results13, go_sem, c0, c1, c2, c3]) rfl ⟨_, ⟨[2, 1], r.kd, r.tm, r.pf⟩, rfl, ?_, ⟨by simp, HF.out.k, HF.out.t, HF.out.f⟩, ⟨q + 1 + 1, by omega, by omega, ?_⟩, ?_⟩
      · refine IntsH.mono (lo := w1.heap.size + 1) ?_ (by omega)
        repeat (refine IntsH.setCell ?_ (by simp only []; omega) _)
        exact HK1.out
      · repeat (refine Rd.other ?_ (by omega) _)
        exact HX.out.1
      · repeat (refine Tch.other ?_ (by omega) _)
        exact HX.out.2.1
    · have j0 := kl.cell 2
      clear kl
      go_wp2
      refine bodyPost_ret (v := .agg #[.slice (some ⟨w2.heap.size + 1 + 1, 0, none⟩) 1 1, .string r.kd, .string r.tm, .string r.pf]) (by simp [results, Tryd.results13, go_sem, c0, c1, c2, c3]) rfl ⟨_, ⟨[0], r.kd, r.tm, r.pf⟩, rfl, ?_, ⟨by simp, HF.out.k, HF.out.t, HF.out.f⟩, ⟨q + 1 + 1, by omega, by omega, ?_⟩, ?_⟩
      · refine IntsH.mono (lo := w1.heap.size + 1) ?_ (by omega)
        repeat (refine IntsH.setCell ?_ (by simp only []; omega) _)
        exact HK2.out
      · repeat (refine Rd.other ?_ (by omega) _)
        exact HX.out.1
      · repeat (refine Tch.other ?_ (by omega) _)
        exact HX.out.2.1
    · have j0 := kl.cell 3
      clear kl
      go_wp2
      refine bodyPost_ret (v := .agg #[.slice (some ⟨w2.heap.size + 1 + 1 + 1, 0, none⟩) 1 1, .string r.kd, .string r.tm, .string r.pf]) (by simp [results, Tryd.results13, go_sem, c0, c1, c2, c3]) rfl ⟨_, ⟨[6], r.kd, r.tm, r.pf⟩, rfl, ?_, ⟨by simp, HF.out.k, HF.out.t, HF.out.f⟩, ⟨q + 1 + 1, by omega, by omega, ?_⟩, ?_⟩
      · refine IntsH.mono (lo := w1.heap.size + 1) ?_ (by omega)
        repeat (refine IntsH.setCell ?_ (by simp only []; omega) _)
        exact HK3.out
      · repeat (refine Rd.other ?_ (by omega) _)
        exact HX.out.1
      · repeat (refine Tch.other ?_ (by omega) _)
        exact HX.out.2.1
    · have j0 := kl.cell 4
      clear kl
      go_wp2
      refine bodyPost_ret (v := .agg #[.slice (some ⟨w2.heap.size + 1 + 1 + 1 + 1, 0, none⟩) 2 2, .string r.kd, .string r.tm, .string r.pf]) (by simp [results, Tryd.results13, go_sem, c0, c1, c2, c3]) rfl ⟨_, ⟨[1, 1], r.kd, r.tm, r.pf⟩, rfl, ?_, ⟨by simp, HF.out.k, HF.out.t, HF.out.f⟩, ⟨q + 1 + 1, by omega, by omega, ?_⟩, ?_⟩
      · refine IntsH.mono (lo := w1.heap.size + 1) ?_ (by omega)
        repeat (refine IntsH.setCell ?_ (by simp only []; omega) _)
        exact HK4.out
      · repeat (refine Rd.other ?_ (by omega) _)
        exact HX.out.1
      · repeat (refine Tch.other ?_ (by omega) _)
        exact HX.out.2.1
    · have j0 := kl.cell 5
      clear kl
      go_wp2
      refine bodyPost_ret (v := .agg #[.slice (some ⟨w2.heap.size + 1 + 1 + 1 + 1 + 1, 0, none⟩) 1 1, .string r.kd, .string r.tm, .string r.pf]) (by simp [results, Tryd.results13, go_sem, c0, c1, c2, c3]) rfl ⟨_, ⟨[-1], r.kd, r.tm, r.pf⟩, rfl, ?_, ⟨by simp, HF.out.k, HF.out.t, HF.out.f⟩, ⟨q + 1 + 1, by omega, by omega, ?_⟩, ?_⟩
      · refine IntsH.mono (lo := w1.heap.size + 1) ?_ (by omega)
        repeat (refine IntsH.setCell ?_ (by simp only []; omega) _)
        exact HK5.out
      · repeat (refine Rd.other ?_ (by omega) _)
        exact HX.out.1
      · repeat (refine Tch.other ?_ (by omega) _)
        exact HX.out.2.1
  have n0 : (x == 0) = false := by rw [beq_eq_false_iff_ne]; exact e0
  by_cases e1 : x = 1
  · subst e1
    go_wp2_with fail
    refine (ofBuilt_any ρ _ bs _ _ 2 w2 HS2.out.rd (by omega) (by decide) (by rfl) (by decide) (by decide)).mono ?_
    rintro e w3 ⟨s, rfl, hs, hr3, ht3⟩
    have HS3 := hide (HS2.out.step hr3 ht3)
    have HB3 := hide (ht3.box HB2.out (by omega))
    have HT3 := hide (HT2.out.trans ht3)
    have HSS := hide hs
    clear hr3 ht3 HS2 HB2 HT2 hs
    have g0 := HB3.out.cell 0
    have g1 := HB3.out.cell 1
    have g2 := HB3.out.cell 2
    have g3 := HB3.out.cell 3
    have gf := HB3.out.free
    have gl := HB3.out.lt
    have c0 := HS3.out.box.cell 0
    have c1 := HS3.out.box.cell 1
    have c2 := HS3.out.box.cell 2
    have c3 := HS3.out.box.cell 3
    have cf := HS3.out.box.free
    have cl := HS3.out.box.lt
    have HX := hide (And.intro HS3.out.rd (And.intro HS3.out.t HT3.out))
    clear HS3 HB3 HT3
    go_wp2
    refine bodyPost_ret (v := .agg #[.slice (some va) r.vb.length vcap, .string s, .string r.tm, .string r.pf]) (by simp [results, Tryd.results13, go_sem, c0, c1, c2, c3]) rfl ⟨_, ⟨r.vb, s, r.tm, r.pf⟩, rfl, ?_, ⟨HF.out.n, HSS.out, HF.out.t, HF.out.f⟩, ⟨q + 1 + 1, by omega, by omega, ?_⟩, ?_⟩
    · refine IntsH.mono (lo := w.heap.size + 1) ?_ (by omega)
      repeat (refine IntsH.setCell ?_ (by simp only []; omega) _)
      refine HV.out.tch (ρ := ρ) ?_ (by omega)
      repeat (refine Tch.other ?_ (Nat.le_refl _) _)
      exact HX.out.2.2
    · repeat (refine Rd.other ?_ (by omega) _)
      exact HX.out.1
    · repeat (refine Tch.other ?_ (by omega) _)
      exact HX.out.2.1
  have n1 : (x == 1) = false := by rw [beq_eq_false_iff_ne]; exact e1
  by_cases e2 : x = 2
  · subst e2
    go_wp2_with fail
    refine (ofBuilt_any ρ _ bs _ _ 2 w2 HS2.out.rd (by omega) (by decide) (by rfl) (by decide) (by decide)).mono ?_
    rintro e w3 ⟨s, rfl, hs, hr3, ht3⟩
    have HS3 := hide (HS2.out.step hr3 ht3)
    have HB3 := hide (ht3.box HB2.out (by omega))
    have HT3 := hide (HT2.out.trans ht3)
    have HSS := hide hs
    clear hr3 ht3 HS2 HB2 HT2 hs
    have g0 := HB3.out.cell 0
    have g1 := HB3.out.cell 1
    have g2 := HB3.out.cell 2
    have g3 := HB3.out.cell 3
    have gf := HB3.out.free
    have gl := HB3.out.lt
    have c0 := HS3.out.box.cell 0
    have c1 := HS3.out.box.cell 1
    have c2 := HS3.out.box.cell 2
    have c3 := HS3.out.box.cell 3
    have cf := HS3.out.box.free
    have cl := HS3.out.box.lt
    have HX := hide (And.intro HS3.out.rd (And.intro HS3.out.t HT3.out))
    clear HS3 HB3 HT3
    go_wp2
    refine bodyPost_ret (v := .agg #[.slice (some va) r.vb.length vcap, .string r.kd, .string s, .string r.pf]) (by simp [results, Tryd.results13, go_sem, c0, c1, c2, c3]) rfl ⟨_, ⟨r.vb, r.kd, s, r.pf⟩, rfl, ?_, ⟨HF.out.n, HF.out.k, HSS.out, HF.out.f⟩, ⟨q + 1 + 1, by omega, by omega, ?_⟩, ?_⟩
    · refine IntsH.mono (lo := w.heap.size + 1) ?_ (by omega)
      repeat (refine IntsH.setCell ?_ (by simp only []; omega) _)
      refine HV.out.tch (ρ := ρ) ?_ (by omega)
      repeat (refine Tch.other ?_ (Nat.le_refl _) _)
      exact HX.out.2.2
    · repeat (refine Rd.other ?_ (by omega) _)
      exact HX.out.1
    · repeat (refine Tch.other ?_ (by omega) _)
      exact HX.out.2.1
  have n2 : (x == 2) = false := by rw [beq_eq_false_iff_ne]; exact e2
  by_cases e3 : x = 3
  · subst e3
    go_wp2_with fail
    refine (pick_any ρ (q + 1) bs 2 w2 HS2.out.rd (by omega) (by decide) (by decide)).mono ?_
    rintro e w3 ⟨y, rfl, hy0, hy1, hr3, ht3⟩
    have HS3 := hide (HS2.out.step hr3 ht3)
    have HB3 := hide (ht3.box HB2.out (by omega))
    have HT3 := hide (HT2.out.trans ht3)
    clear hr3 ht3 HS2 HB2 HT2
    obtain ⟨m, rfl⟩ := Int.eq_ofNat_of_zero_le hy0
    have hwm : wrap64 (16 + (m : Int)) = 16 + (m : Int) := by unfold wrap64; omega
    have hcast : ((16 + m : Nat) : Int) = 16 + (m : Int) := by omega
    have hsz1 : (⟨#[98]⟩ : ByteArray).size = 1 := rfl
    have hmany := l1Many_any ⟨#[98]⟩ (16 + m) w3 (by rw [hsz1]; omega) (by omega) (by rw [hsz1]; omega)
    rw [hcast, hsz1] at hmany
    clear hcast hsz1
    have HM := hide hmany
    clear hmany
    go_wp2_with fail
    refine HM.out.mono ?_
    rintro e wx ⟨hwx, o, rfl, ho⟩
    have hwx' : w3 = wx := hwx.symm
    subst hwx'
    clear hwx
    have ho1 : o.size ≤ 1000 := by omega
    clear HM ho
    go_wp2_with fail
    refine (ofBuilt_any ρ _ bs _ _ 2 w3 HS3.out.rd (by omega) (by simp [isS, ho1]; decide) (by rfl) (by decide) (by decide)).mono ?_
    rintro e w4 ⟨s, rfl, hs, hr4, ht4⟩
    have HS4 := hide (HS3.out.step hr4 ht4)
    have HB4 := hide (ht4.box HB3.out (by omega))
    have HT4 := hide (HT3.out.trans ht4)
    have HSS := hide hs
    clear hr4 ht4 HS3 HB3 HT3 hs
    have g0 := HB4.out.cell 0
    have g1 := HB4.out.cell 1
    have g2 := HB4.out.cell 2
    have g3 := HB4.out.cell 3
    have gf := HB4.out.free
    have gl := HB4.out.lt
    have c0 := HS4.out.box.cell 0
    have c1 := HS4.out.box.cell 1
    have c2 := HS4.out.box.cell 2
    have c3 := HS4.out.box.cell 3
    have cf := HS4.out.box.free
    have cl := HS4.out.box.lt
    have HX := hide (And.intro HS4.out.rd (And.intro HS4.out.t HT4.out))
    clear HS4 HB4 HT4
    go_wp2
    refine bodyPost_ret (v := .agg #[.slice (some va) r.vb.length vcap, .string r.kd, .string r.tm, .string s]) (by simp [results, Tryd.results13, go_sem, c0, c1, c2, c3]) rfl ⟨_, ⟨r.vb, r.kd, r.tm, s⟩, rfl, ?_, ⟨HF.out.n, HF.out.k, HF.out.t, by have := HSS.out; show s.size ≤ 10000; omega⟩, ⟨q + 1 + 1 + 1, by omega, by omega, ?_⟩, ?_⟩
    · refine IntsH.mono (lo := w.heap.size + 1) ?_ (by omega)
      repeat (refine IntsH.setCell ?_ (by simp only []; omega) _)
      refine HV.out.tch (ρ := ρ) ?_ (by omega)
      repeat (refine Tch.other ?_ (Nat.le_refl _) _)
      exact HX.out.2.2
    · repeat (refine Rd.other ?_ (by omega) _)
      exact HX.out.1
    · repeat (refine Tch.other ?_ (by omega) _)
      exact HX.out.2.1
  have n3 : (x == 3) = false := by rw [beq_eq_false_iff_ne]; exact e3
  have g0 := HB2.out.cell 0
  have g1 := HB2.out.cell 1
  have g2 := HB2.out.cell 2
  have g3 := HB2.out.cell 3
  have gf := HB2.out.free
  have gl := HB2.out.lt
  have c0 := HS2.out.box.cell 0
  have c1 := HS2.out.box.cell 1
  have c2 := HS2.out.box.cell 2
  have c3 := HS2.out.box.cell 3
  have cf := HS2.out.box.free
  have cl := HS2.out.box.lt
  have HX := hide (And.intro HS2.out.rd (And.intro HS2.out.t HT2.out))
  clear HS2 HB2 HT2
  go_wp2
  refine bodyPost_ret (v := .agg #[.slice (some va) r.vb.length vcap, .string r.kd, .string r.tm, .string r.pf]) (by simp [results, Tryd.results13, go_sem, c0, c1, c2, c3]) rfl ⟨_, ⟨r.vb, r.kd, r.tm, r.pf⟩, rfl, ?_, HF.out, ⟨q + 1, by omega, by omega, ?_⟩, ?_⟩
  · refine IntsH.mono (lo := w.heap.size + 1) ?_ (by omega)
    repeat (refine IntsH.setCell ?_ (by simp only []; omega) _)
    refine HV.out.tch (ρ := ρ) ?_ (by omega)
    repeat (refine Tch.other ?_ (Nat.le_refl _) _)
    exact HX.out.2.2
  · repeat (refine Rd.other ?_ (by omega) _)
    exact HX.out.1
  · repeat (refine Tch.other ?_ (by omega) _)
    exact HX.out.2.1
end Go.Proofs.YtobijdenhbpdfaaDoor

