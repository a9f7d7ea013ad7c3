import Derived.Test.YtemggnmooiaokaaGreatD47
namespace Go.Proofs.YtemggnmooiaokaaGreat
open Go.RowKit Go.Deep Go.Shelf

theorem rng_sub {W : World} {b : Nat} {L A M C : List Value} (h : W.rangeAt b 0 L) (e : L = A ++ (M ++ C)) : W.rangeAt b A.length M := fun j v hv => by
  subst e
  have hj : j < M.length := by
    rcases Nat.lt_or_ge j M.length with h1 | h1
    · exact h1
    · rw [List.getElem?_eq_none h1] at hv
      cases hv
  have := h (A.length + j) v (by rw [List.getElem?_append_right (by omega), Nat.add_sub_cancel_left, List.getElem?_append_left hj]; exact hv)
  simpa using this
/-- a service and its counts, in boxes of their own -/
structure ShW (W : World) (lk : List Value) (x : Sv) (n : Ct) (βl βs βn : Nat) : Prop where
  l : Box W βl lk.toArray
  s : Box W βs #[.string x.nm, .int .i64 x.ve, .bool x.gn, .int .i64 x.im, .int .i64 x.wa, .int .i64 x.dn, .int .i64 x.ov, .int .i64 x.nx, .int .i64 x.pr, .int .i64 x.ls, .int .i64 x.ms, .int .i64 x.ld, .int .i64 x.cl]
  c : Box W βn #[.int .i64 n.li, .int .i64 n.re, .int .i64 n.ol, .int .i64 n.fa, .int .i64 n.en]
theorem ShW.on {W W' : World} {lk : List Value} {x : Sv} {n : Ct} {βl βs βn : Nat} (h : ShW W lk x n βl βs βn) (hb : Below W.heap.size W W') : ShW W' lk x n βl βs βn := ⟨h.l.on hb, h.s.on hb, h.c.on hb⟩
theorem ShW.tch {W W' : World} {lk : List Value} {x : Sv} {n : Ct} {βl βs βn lo hi : Nat} (h : ShW W lk x n βl βs βn) (ht : Touch lo hi W W') (h1 : hi ≤ βl) (h2 : hi ≤ βs) (h3 : hi ≤ βn) : ShW W' lk x n βl βs βn := ⟨h.l.tch ht (Or.inr h1), h.s.tch ht (Or.inr h2), h.c.tch ht (Or.inr h3)⟩
abbrev shV (βl βs βn : Nat) : Array Value := #[.func (.func 104) #[] #[.pointer (some ⟨βs, 0, none⟩)], .func (.func 105) #[] #[.pointer (some ⟨βs, 0, none⟩), .pointer (some ⟨βn, 0, none⟩)], .func (.func 106) #[] #[.pointer (some ⟨βs, 0, none⟩), .pointer (some ⟨βn, 0, none⟩)], .func (.func 107) #[] #[.pointer (some ⟨βl, 0, none⟩)], .func (.func 110) #[] #[.pointer (some ⟨βn, 0, none⟩)]]

section
variable (m : Nat) (sv cv bv : Value) (B : Sb) (x : Sv) (n : Ct) (d : Int) (lk : List Value) (w : World)

set_option maxRecDepth 100000 in
set_option maxHeartbeats 8000000 in
theorem shares_any (hlk : LkIs lk m sv cv bv B x n d) :
    Calls Tryz.prog 77 #[.agg lk.toArray] w fun e w' => ∃ βl βs βn : Nat, e = .returned (.agg (shV βl βs βn)) ∧ ShW w' lk x n βl βs βn ∧ Below w.heap.size w w' ∧ w.heap.size ≤ βl ∧ w.heap.size ≤ βs ∧ w.heap.size ≤ βn := by
  have HL := hide hlk
  clear hlk
  go_enter Tryz.func77, Tryz.ntmps77
  go_wp2_with fail
  generalize hWa : World.alloc (w.alloc _) _ = Wa
  have HBa : Hid (Below w.heap.size w Wa) := by unfold Hid; rw [← hWa]; exact (one_al w _).alloc (by simp) _
  have FL : Hid (Box Wa w.heap.size lk.toArray) := by unfold Hid; rw [← hWa]; exact (Box.new _ _ _ _ rfl).on (one_al _ _)
  have FR : Hid (Box Wa (w.heap.size + 1) #[.nilFunc, .nilFunc, .nilFunc, .nilFunc, .nilFunc]) := by unfold Hid; rw [← hWa]; exact Box.new _ _ _ _ (by simp)
  clear hWa
  go_cut [3, 4] from 10 to 13 (fun p q wc => ∃ βs βn : Nat, p = .pointer (some ⟨βs, 0, none⟩) ∧ q = .pointer (some ⟨βn, 0, none⟩) ∧ Below Wa.heap.size Wa wc ∧ Box wc βs #[.string x.nm, .int .i64 x.ve, .bool x.gn, .int .i64 x.im, .int .i64 x.wa, .int .i64 x.dn, .int .i64 x.ov, .int .i64 x.nx, .int .i64 x.pr, .int .i64 x.ls, .int .i64 x.ms, .int .i64 x.ld, .int .i64 x.cl] ∧ Box wc βn #[.int .i64 n.li, .int .i64 n.re, .int .i64 n.ol, .int .i64 n.fa, .int .i64 n.en] ∧ Wa.heap.size ≤ βs ∧ Wa.heap.size ≤ βn)
  case first =>
    have HSS : Hid (∀ W, Below Wa.heap.size Wa W → W.rangeAt w.heap.size 5 [.string x.nm, .int .i64 x.ve, .bool x.gn, .int .i64 x.im, .int .i64 x.wa, .int .i64 x.dn, .int .i64 x.ov, .int .i64 x.nx, .int .i64 x.pr, .int .i64 x.ls, .int .i64 x.ms, .int .i64 x.ld, .int .i64 x.cl]) := fun W hW => rng_sub (A := [.int .i64 B.now, sv, cv, bv, .map (some m)]) (C := [.int .i64 n.li, .int .i64 n.re, .int .i64 n.ol, .int .i64 n.fa, .int .i64 n.en, .int .i64 d]) (FL.out.on hW).rng HL.out
    have HSC : Hid (∀ W, Below Wa.heap.size Wa W → W.rangeAt w.heap.size 18 [.int .i64 n.li, .int .i64 n.re, .int .i64 n.ol, .int .i64 n.fa, .int .i64 n.en]) := fun W hW => rng_sub (A := [.int .i64 B.now, sv, cv, bv, .map (some m), .string x.nm, .int .i64 x.ve, .bool x.gn, .int .i64 x.im, .int .i64 x.wa, .int .i64 x.dn, .int .i64 x.ov, .int .i64 x.nx, .int .i64 x.pr, .int .i64 x.ls, .int .i64 x.ms, .int .i64 x.ld, .int .i64 x.cl]) (C := [.int .i64 d]) (FL.out.on hW).rng HL.out
    refine wp_region_held_drew (S := fun W => Below Wa.heap.size Wa W) (by kernel_rfl) ((Below.refl _ _).drew) (fun hHeld => ?_)
    refine wpAnyH_take (i := 0) (v := .pointer (some ⟨w.heap.size, 5, none⟩)) rfl (by kernel_rfl) (by kernel_rfl) (by kernel_rfl) (fun _ _ _ h => h) (Or.inl ⟨by rfl, fun W hW => by go_simp⟩) hHeld ?_
    try simp only [Act.put, List.getElem_toArray, List.getElem_cons_zero, List.setIfInBounds_toArray, List.set_cons_zero, List.set_cons_succ]
    refine wpAnyH_take (i := 1) rfl (by kernel_rfl) (by kernel_rfl) (by kernel_rfl) (fun _ _ _ h => h) (yieldsIf_load_mid (by rfl) 49 (.tmp 10) rfl w.heap.size 5 rfl [.string x.nm, .int .i64 x.ve, .bool x.gn, .int .i64 x.im, .int .i64 x.wa, .int .i64 x.dn, .int .i64 x.ov, .int .i64 x.nx, .int .i64 x.pr, .int .i64 x.ls, .int .i64 x.ms, .int .i64 x.ld, .int .i64 x.cl] _ HSS.out Tryz.underlying49 rfl (by kernel_rfl)) hHeld ?_
    try simp only [Act.put, List.getElem_toArray, List.getElem_cons_succ, List.getElem_cons_zero, List.setIfInBounds_toArray, List.set_cons_zero, List.set_cons_succ]
    refine wpAnyH_take (i := 2) (v := .pointer (some ⟨w.heap.size, 18, none⟩)) rfl (by kernel_rfl) (by kernel_rfl) (by kernel_rfl) (fun _ _ _ h => h) (Or.inl ⟨by rfl, fun W hW => by go_simp⟩) hHeld ?_
    try simp only [Act.put, List.getElem_toArray, List.getElem_cons_succ, List.getElem_cons_zero, List.setIfInBounds_toArray, List.set_cons_zero, List.set_cons_succ]
    refine wpAnyH_take (i := 3) rfl (by kernel_rfl) (by kernel_rfl) (by kernel_rfl) (fun _ _ _ h => h) (yieldsIf_load_mid (by rfl) 90 (.tmp 12) rfl w.heap.size 18 rfl [.int .i64 n.li, .int .i64 n.re, .int .i64 n.ol, .int .i64 n.fa, .int .i64 n.en] _ HSC.out Tryz.underlying90 rfl (by kernel_rfl)) hHeld ?_
    try simp only [Act.put, List.getElem_toArray, List.getElem_cons_succ, List.getElem_cons_zero, List.setIfInBounds_toArray, List.set_cons_zero, List.set_cons_succ]
    refine wpAnyH_ready (rs := [4, 5]) (by kernel_rfl) (by simp) ?_
    refine AllReadyH.cons rfl (fun K hK => ?_) (AllReadyH.cons rfl (fun K hK => ?_) AllReadyH.nil)
    · go_simp
      refine hK.out _ _ ((one_al _ _).drew) (fun hHeld => ?_)
      clear hK K
      try simp only [Act.put, List.getElem_toArray, List.getElem_cons_succ, List.getElem_cons_zero, List.setIfInBounds_toArray, List.set_cons_zero, List.set_cons_succ]
      refine wpAnyH_ready (rs := [5]) (by kernel_rfl) (by simp) ?_
      refine AllReadyH.cons rfl (fun K hK => ?_) AllReadyH.nil
      go_simp
      refine hK.out _ _ ((bt (one_al _ _) (one_al _ _)).drew) (fun hHeld => ?_)
      clear hK K
      try simp only [Act.put, List.getElem_toArray, List.getElem_cons_succ, List.getElem_cons_zero, List.setIfInBounds_toArray, List.set_cons_zero, List.set_cons_succ]
      clear hHeld
      generalize hW3 : World.drew (World.alloc (World.alloc _ _) _) = W3
      have H3 : Hid (Below Wa.heap.size Wa W3) := by unfold Hid; rw [← hW3]; exact (bt (one_al _ _) (one_al _ _)).drew
      have G1 : Hid (Box W3 Wa.heap.size #[.string ⟨#[]⟩, .int .i64 0, .bool false, .int .i64 0, .int .i64 0, .int .i64 0, .int .i64 0, .int .i64 0, .int .i64 0, .int .i64 0, .int .i64 0, .int .i64 0, .int .i64 0]) := by unfold Hid; rw [← hW3]; exact ((Box.new _ _ _ _ rfl).on (one_al _ _)).drew
      have G2 : Hid (Box W3 (Wa.heap.size + 1) #[.int .i64 0, .int .i64 0, .int .i64 0, .int .i64 0, .int .i64 0]) := by unfold Hid; rw [← hW3]; exact (Box.new _ _ _ _ (by simp)).drew
      clear hW3
      have hw3 := G2.out.lt
      have HTs : Hid (W3.there (Wa.heap.size) 0 13) := G1.out.there rfl
      refine wpAnyH_ready (rs := [6]) (by kernel_rfl) (by simp) ?_
      refine AllReadyH.cons rfl (fun K hK => ?_) AllReadyH.nil
      rw [if_pos (by rfl)]
      refine wp_store_mid 49 (.tmp 3) (.tmp 11) rfl (Wa.heap.size) 0 #[.string x.nm, .int .i64 x.ve, .bool x.gn, .int .i64 x.im, .int .i64 x.wa, .int .i64 x.dn, .int .i64 x.ov, .int .i64 x.nx, .int .i64 x.pr, .int .i64 x.ls, .int .i64 x.ms, .int .i64 x.ld, .int .i64 x.cl] rfl rfl HTs.out Sv_sizeI (by simp [Value.oneCell']) ?_
      refine hK.out _ _ (Below.sets (by omega) _ _ H3.out) (fun hHeld => ?_)
      clear hK K
      try simp only [Act.put, List.getElem_toArray, List.getElem_cons_succ, List.getElem_cons_zero]
      have G4 : Hid (Box (W3.setCells (Wa.heap.size) 0 [.string x.nm, .int .i64 x.ve, .bool x.gn, .int .i64 x.im, .int .i64 x.wa, .int .i64 x.dn, .int .i64 x.ov, .int .i64 x.nx, .int .i64 x.pr, .int .i64 x.ls, .int .i64 x.ms, .int .i64 x.ld, .int .i64 x.cl]) (Wa.heap.size) #[.string x.nm, .int .i64 x.ve, .bool x.gn, .int .i64 x.im, .int .i64 x.wa, .int .i64 x.dn, .int .i64 x.ov, .int .i64 x.nx, .int .i64 x.pr, .int .i64 x.ls, .int .i64 x.ms, .int .i64 x.ld, .int .i64 x.cl]) := G1.out.full (cs' := #[.string x.nm, .int .i64 x.ve, .bool x.gn, .int .i64 x.im, .int .i64 x.wa, .int .i64 x.dn, .int .i64 x.ov, .int .i64 x.nx, .int .i64 x.pr, .int .i64 x.ls, .int .i64 x.ms, .int .i64 x.ld, .int .i64 x.cl]) rfl
      have G5 : Hid (Box (W3.setCells (Wa.heap.size) 0 [.string x.nm, .int .i64 x.ve, .bool x.gn, .int .i64 x.im, .int .i64 x.wa, .int .i64 x.dn, .int .i64 x.ov, .int .i64 x.nx, .int .i64 x.pr, .int .i64 x.ls, .int .i64 x.ms, .int .i64 x.ld, .int .i64 x.cl]) (Wa.heap.size + 1) #[.int .i64 0, .int .i64 0, .int .i64 0, .int .i64 0, .int .i64 0]) := G2.out.ofBlk (World.heap_setCells_other W3 _ _ _ G2.out.lt (by omega))
      have H4 : Hid (Below Wa.heap.size Wa (W3.setCells (Wa.heap.size) 0 [.string x.nm, .int .i64 x.ve, .bool x.gn, .int .i64 x.im, .int .i64 x.wa, .int .i64 x.dn, .int .i64 x.ov, .int .i64 x.nx, .int .i64 x.pr, .int .i64 x.ls, .int .i64 x.ms, .int .i64 x.ld, .int .i64 x.cl])) := Below.sets (by omega) _ _ H3.out
      clear hHeld
      generalize hW4 : W3.setCells (Wa.heap.size) 0 _ = W4 at G4 G5 H4 ⊢
      clear hW4
      have HTc : Hid (W4.there (Wa.heap.size + 1) 0 5) := G5.out.there rfl
      refine wpAnyH_ready (rs := [7]) (by kernel_rfl) (by simp) ?_
      refine AllReadyH.cons rfl (fun K hK => ?_) AllReadyH.nil
      rw [if_pos (by rfl)]
      refine wp_store_mid 90 (.tmp 4) (.tmp 13) rfl (Wa.heap.size + 1) 0 #[.int .i64 n.li, .int .i64 n.re, .int .i64 n.ol, .int .i64 n.fa, .int .i64 n.en] rfl rfl HTc.out (by kernel_rfl) (by simp [Value.oneCell']) ?_
      refine hK.out _ _ (Below.sets (by omega) _ _ H4.out) (fun hHeld => ?_)
      clear hK K
      try simp only [Act.put, List.getElem_toArray, List.getElem_cons_succ, List.getElem_cons_zero]
      refine wpAnyH_done (by kernel_rfl) ?_ _
      try simp only [List.getElem_toArray, List.getElem_cons_succ, List.getElem_cons_zero]
      go_wp2
      go_meet
      exact ⟨Wa.heap.size, Wa.heap.size + 1, rfl, rfl, Below.sets (by omega) _ _ H4.out, G4.out.ofBlk (World.heap_setCells_other W4 _ _ _ G4.out.lt (by omega)), G5.out.full rfl, by omega, by omega⟩
    · go_simp
      refine hK.out _ _ ((one_al _ _).drew) (fun hHeld => ?_)
      clear hK K
      try simp only [Act.put, List.getElem_toArray, List.getElem_cons_succ, List.getElem_cons_zero, List.setIfInBounds_toArray, List.set_cons_zero, List.set_cons_succ]
      refine wpAnyH_ready (rs := [4]) (by kernel_rfl) (by simp) ?_
      refine AllReadyH.cons rfl (fun K hK => ?_) AllReadyH.nil
      go_simp
      refine hK.out _ _ ((bt (one_al _ _) (one_al _ _)).drew) (fun hHeld => ?_)
      clear hK K
      try simp only [Act.put, List.getElem_toArray, List.getElem_cons_succ, List.getElem_cons_zero, List.setIfInBounds_toArray, List.set_cons_zero, List.set_cons_succ]
      clear hHeld
      generalize hW3 : World.drew (World.alloc (World.alloc _ _) _) = W3
      have H3 : Hid (Below Wa.heap.size Wa W3) := by unfold Hid; rw [← hW3]; exact (bt (one_al _ _) (one_al _ _)).drew
      have G1 : Hid (Box W3 Wa.heap.size #[.int .i64 0, .int .i64 0, .int .i64 0, .int .i64 0, .int .i64 0]) := by unfold Hid; rw [← hW3]; exact ((Box.new _ _ _ _ rfl).on (one_al _ _)).drew
      have G2 : Hid (Box W3 (Wa.heap.size + 1) #[.string ⟨#[]⟩, .int .i64 0, .bool false, .int .i64 0, .int .i64 0, .int .i64 0, .int .i64 0, .int .i64 0, .int .i64 0, .int .i64 0, .int .i64 0, .int .i64 0, .int .i64 0]) := by unfold Hid; rw [← hW3]; exact (Box.new _ _ _ _ (by simp)).drew
      clear hW3
      have hw3 := G2.out.lt
      have HTs : Hid (W3.there (Wa.heap.size + 1) 0 13) := G2.out.there rfl
      refine wpAnyH_ready (rs := [6]) (by kernel_rfl) (by simp) ?_
      refine AllReadyH.cons rfl (fun K hK => ?_) AllReadyH.nil
      rw [if_pos (by rfl)]
      refine wp_store_mid 49 (.tmp 3) (.tmp 11) rfl (Wa.heap.size + 1) 0 #[.string x.nm, .int .i64 x.ve, .bool x.gn, .int .i64 x.im, .int .i64 x.wa, .int .i64 x.dn, .int .i64 x.ov, .int .i64 x.nx, .int .i64 x.pr, .int .i64 x.ls, .int .i64 x.ms, .int .i64 x.ld, .int .i64 x.cl] rfl rfl HTs.out Sv_sizeI (by simp [Value.oneCell']) ?_
      refine hK.out _ _ (Below.sets (by omega) _ _ H3.out) (fun hHeld => ?_)
      clear hK K
      try simp only [Act.put, List.getElem_toArray, List.getElem_cons_succ, List.getElem_cons_zero]
      have G4 : Hid (Box (W3.setCells (Wa.heap.size + 1) 0 [.string x.nm, .int .i64 x.ve, .bool x.gn, .int .i64 x.im, .int .i64 x.wa, .int .i64 x.dn, .int .i64 x.ov, .int .i64 x.nx, .int .i64 x.pr, .int .i64 x.ls, .int .i64 x.ms, .int .i64 x.ld, .int .i64 x.cl]) (Wa.heap.size + 1) #[.string x.nm, .int .i64 x.ve, .bool x.gn, .int .i64 x.im, .int .i64 x.wa, .int .i64 x.dn, .int .i64 x.ov, .int .i64 x.nx, .int .i64 x.pr, .int .i64 x.ls, .int .i64 x.ms, .int .i64 x.ld, .int .i64 x.cl]) := G2.out.full (cs' := #[.string x.nm, .int .i64 x.ve, .bool x.gn, .int .i64 x.im, .int .i64 x.wa, .int .i64 x.dn, .int .i64 x.ov, .int .i64 x.nx, .int .i64 x.pr, .int .i64 x.ls, .int .i64 x.ms, .int .i64 x.ld, .int .i64 x.cl]) rfl
      have G5 : Hid (Box (W3.setCells (Wa.heap.size + 1) 0 [.string x.nm, .int .i64 x.ve, .bool x.gn, .int .i64 x.im, .int .i64 x.wa, .int .i64 x.dn, .int .i64 x.ov, .int .i64 x.nx, .int .i64 x.pr, .int .i64 x.ls, .int .i64 x.ms, .int .i64 x.ld, .int .i64 x.cl]) (Wa.heap.size) #[.int .i64 0, .int .i64 0, .int .i64 0, .int .i64 0, .int .i64 0]) := G1.out.ofBlk (World.heap_setCells_other W3 _ _ _ G1.out.lt (by omega))
      have H4 : Hid (Below Wa.heap.size Wa (W3.setCells (Wa.heap.size + 1) 0 [.string x.nm, .int .i64 x.ve, .bool x.gn, .int .i64 x.im, .int .i64 x.wa, .int .i64 x.dn, .int .i64 x.ov, .int .i64 x.nx, .int .i64 x.pr, .int .i64 x.ls, .int .i64 x.ms, .int .i64 x.ld, .int .i64 x.cl])) := Below.sets (by omega) _ _ H3.out
      clear hHeld
      generalize hW4 : W3.setCells (Wa.heap.size + 1) 0 _ = W4 at G4 G5 H4 ⊢
      clear hW4
      have HTc : Hid (W4.there (Wa.heap.size) 0 5) := G5.out.there rfl
      refine wpAnyH_ready (rs := [7]) (by kernel_rfl) (by simp) ?_
      refine AllReadyH.cons rfl (fun K hK => ?_) AllReadyH.nil
      rw [if_pos (by rfl)]
      refine wp_store_mid 90 (.tmp 4) (.tmp 13) rfl (Wa.heap.size) 0 #[.int .i64 n.li, .int .i64 n.re, .int .i64 n.ol, .int .i64 n.fa, .int .i64 n.en] rfl rfl HTc.out (by kernel_rfl) (by simp [Value.oneCell']) ?_
      refine hK.out _ _ (Below.sets (by omega) _ _ H4.out) (fun hHeld => ?_)
      clear hK K
      try simp only [Act.put, List.getElem_toArray, List.getElem_cons_succ, List.getElem_cons_zero]
      refine wpAnyH_done (by kernel_rfl) ?_ _
      try simp only [List.getElem_toArray, List.getElem_cons_succ, List.getElem_cons_zero]
      go_wp2
      go_meet
      exact ⟨Wa.heap.size + 1, Wa.heap.size, rfl, rfl, Below.sets (by omega) _ _ H4.out, G4.out.ofBlk (World.heap_setCells_other W4 _ _ _ G4.out.lt (by omega)), G5.out.full rfl, by omega, by omega⟩
  case rest =>
  revert wc
  intro Wc hcut
  obtain ⟨βs, βn, rfl, rfl, hbc, hs, hc, hzs, hzn⟩ := hcut
  have hwa := FR.out.lt
  have HBc := hide (bt HBa.out hbc)
  have FLc := hide (FL.out.on hbc)
  have FRc := hide (FR.out.on hbc)
  have FS := hide hs
  have FC := hide hc
  clear hbc hs hc FL FR HBa
  have HT : Hid (Wc.there (w.heap.size + 1) 0 5) := FRc.out.there rfl
  have hw0 := FRc.out.lt
  go_wp2_with (first
    | (refine wpList_store_mid rfl 125 (.tmp 2) (.tmp 24) rfl (w.heap.size + 1) 0 (shV w.heap.size βs βn) rfl rfl HT.out (by kernel_rfl) (by simp [Value.oneCell']) ?_; refine Hid.out ?_))
  generalize hW : World.setCells Wc _ _ _ = W2
  have HB2 : Hid (Below w.heap.size w W2) := by unfold Hid; rw [← hW]; exact Below.sets (by omega) _ _ HBc.out
  have FR2 : Hid (Box W2 (w.heap.size + 1) (shV w.heap.size βs βn)) := by unfold Hid; rw [← hW]; exact FRc.out.full rfl
  have hne : ∀ β, β ≠ w.heap.size + 1 → ∀ cs, Box Wc β cs → Box W2 β cs := fun β hβ cs hb => by rw [← hW]; exact hb.ofBlk (World.heap_setCells_other Wc _ _ _ hb.lt hβ)
  have hs2 : Box W2 w.heap.size lk.toArray := hne _ (by omega) _ FLc.out
  have hS2 : Box W2 βs #[.string x.nm, .int .i64 x.ve, .bool x.gn, .int .i64 x.im, .int .i64 x.wa, .int .i64 x.dn, .int .i64 x.ov, .int .i64 x.nx, .int .i64 x.pr, .int .i64 x.ls, .int .i64 x.ms, .int .i64 x.ld, .int .i64 x.cl] := hne _ (by omega) _ FS.out
  have hC2 : Box W2 βn #[.int .i64 n.li, .int .i64 n.re, .int .i64 n.ol, .int .i64 n.fa, .int .i64 n.en] := hne _ (by omega) _ FC.out
  have HSW : Hid (ShW W2 lk x n w.heap.size βs βn) := ⟨hs2, hS2, hC2⟩
  clear hW hne hs2 hS2 hC2 HT FRc
  refine hide ?_
  go_wp2
  refine bodyPost_ret (v := .agg (shV w.heap.size βs βn)) (res_cell_mid rfl _ _ (w.heap.size + 1) 0 (shV w.heap.size βs βn).toList _ rfl (FR2.out.range rfl) Tryz.underlying125 rfl (by kernel_rfl)) rfl ⟨_, _, _, rfl, HSW.out, HB2.out, Nat.le_refl _, by omega, by omega⟩
end
end Go.Proofs.YtemggnmooiaokaaGreat
