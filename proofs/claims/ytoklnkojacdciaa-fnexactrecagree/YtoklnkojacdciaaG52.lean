import Derived.Test.YtoklnkojacdciaaG51
import Derived.RangeFuncBox
import Derived.Deep.RegionHeld3
namespace Go.Proofs.Ytoklnkojacdciaa
open Go.RowKit Go.Deep Go.Shelf

attribute [local go_sem] Oper.semAt_some

theorem Box.ofBlk {w w' : World} {β : Nat} {cs : Array Value} (h : Box w β cs) (e : w'.heap[β]? = w.heap[β]?) : Box w' β cs :=
  ⟨by have := h.lt; rw [Array.getElem?_eq_getElem this] at e; exact (Array.getElem?_eq_some_iff.1 e).1, fun i => (World.cell?_of_block (a := ⟨β, i, none⟩) e).trans (h.cell i), fun i => (World.frozen?_of_block (a := ⟨β, i, none⟩) e).trans (h.free i)⟩
theorem RwAt.ofBlk {w w' : World} {ρ : Nat} {T : Nat → Option ByteArray} (h : RwAt w ρ T) (e : w'.heap[ρ]? = w.heap[ρ]?) : RwAt w' ρ T :=
  ⟨by have := h.lt; rw [Array.getElem?_eq_getElem this] at e; exact (Array.getElem?_eq_some_iff.1 e).1, fun i hi => (World.cell?_of_block (a := ⟨ρ, i, none⟩) e).trans (h.tx i hi), fun i hi => (World.cell?_of_block (a := ⟨ρ, 121 + i, none⟩) e).trans (h.st i hi), fun j => (World.frozen?_of_block (a := ⟨ρ, j, none⟩) e).trans (h.fz j)⟩
/-- the world while what is told is held against the row -/
structure AgW (w : World) (rb rp ρ : Nat) (F : List Rx) (W : World) : Prop where
  row : RwAt W ρ (fun i => fixT F (i : Int))
  ptr : Box W rp #[.pointer (some ⟨ρ, 0, none⟩)]
  res : Box W rb #[.bool false]
  below : Below w.heap.size w W
theorem AgW.grow {w : World} {rb rp ρ m : Nat} {F : List Rx} {W W' : World} {r : Option Nat} (h : AgW w rb rp ρ F W) (hm : rb < m ∧ rp < m ∧ ρ < m ∧ w.heap.size ≤ m) (hg : W.grownBy W' r) (hr : ∀ x, r = some x → m ≤ x) : AgW w rb rp ρ F W' :=
  ⟨h.row.ofBlk (hg.block _ h.row.lt (fun e => by have := hr _ e.symm; omega)), h.ptr.ofBlk (hg.block _ h.ptr.lt (fun e => by have := hr _ e.symm; omega)), h.res.ofBlk (hg.block _ h.res.lt (fun e => by have := hr _ e.symm; omega)),
    h.below.trans ⟨hg.os, hg.tape, hg.output, hg.size, fun k hk => hg.block k (by have := h.below.size; omega) (fun e => by have := hr _ e.symm; omega)⟩⟩

theorem hasOk (w : World) (ρ p : Nat) (t : ByteArray) (F : List Rx) (h : RwAt w ρ (fun i => fixT F (i : Int))) (hp : p ≤ 120) :
    Calls Try.prog 50 #[.pointer (some ⟨ρ, 0, none⟩), .int .i64 p, .string t] w fun e w' => e = .returned (.bool (okAt F (p : Int) t)) ∧ w' = w :=
  (hasRow_any w ρ p t _ h hp).mono (by
    rintro e w' ⟨rfl, rfl⟩
    refine ⟨?_, rfl⟩
    unfold okAt
    cases fixT F (p : Int) <;> rfl)
theorem wld_fix {U : Wd} (h : wldB U = true) : fixB U.fx = true := by
  unfold wldB at h
  simp only [Bool.and_eq_true] at h
  exact h.2.2.2.2
set_option maxRecDepth 100000 in
set_option maxHeartbeats 4000000 in
theorem implAgree_any (lo : Nat) (cs : List Value) (U : Wd) (w : World) (h : WdC lo w cs U) :
    Calls Try.prog 19 #[.agg cs.toArray] w fun e w' => e = .returned (.bool (agreeB U)) ∧ Below w.heap.size w w' := by
  have HC := hide h
  obtain ⟨a0, k0, a1, k1, a2, k2, rfl, hl⟩ := h
  have HL := hide hl.l0
  have HF := hide hl.l2
  show Calls Try.prog 19 #[.agg #[.slice a0 U.rs.length k0, .slice a1 U.fl.length k1, .slice a2 U.fx.length k2]] w _
  clear hl
  refine (callsIn_wide (n := 5)).1 ?_
  refine callsIn_of_wp_marks Try.func19 rfl trivial ?_ rfl
  simp only [Try.ntmps19, List.size_toArray, List.length_cons, List.length_nil, Nat.reduceAdd, Nat.reduceSub, Array.replicate_succ, Array.replicate_zero, List.push_toArray, List.append_toArray, List.nil_append, List.cons_append]
  gi_wp2_with fail
  obtain ⟨Wa, hWa, HB, FX, FR⟩ : ∃ Wa, Wa = (w.alloc (.cells #[.slice a0 U.rs.length k0, .slice a1 U.fl.length k1, .slice a2 U.fx.length k2] 26)).alloc (.cells #[.bool false] 4) ∧ Hid (Below w.heap.size w Wa) ∧ Hid (Box Wa w.heap.size #[.slice a0 U.rs.length k0, .slice a1 U.fl.length k1, .slice a2 U.fx.length k2]) ∧ Hid (Box Wa (w.heap.size + 1) #[.bool false]) :=
    ⟨_, rfl, bt (one_al _ _) (one_al _ _), (Box.new _ _ _ _ rfl).on (one_al _ _), Box.new _ _ _ _ (by simp)⟩
  rw [← hWa]
  clear hWa
  refine ⟨trivial, (callsIn_wide.2 (implWorldR_any lo _ U _ (HC.out.below HB.out))).mono ?_⟩
  rintro e w1 ⟨rfl, hb1⟩
  replace HB := hide (bt HB.out hb1)
  replace FX := hide (FX.out.on hb1)
  replace FR := hide (FR.out.on hb1)
  clear hb1
  cases q : wldB U with
  | false =>
    have HE : Hid (agreeB U = false) := by unfold Hid agreeB; rw [q]; rfl
    have r0 := FR.out.cell 0
    have rf := FR.out.free 0
    simp at r0
    gi_wp2
    have c1 : (w1.setCell ⟨w.heap.size + 1, 0, none⟩ (.bool false)).cell? ⟨w.heap.size + 1, 0, none⟩ = some (.bool false) := World.cell?_setCell_same' _ _ _ (by rw [r0]; rfl)
    exact ⟨.bool false, by simp [results, Try.results19, go_sem, c1], by rw [HE.out], HB.out.setCell (p := ⟨w.heap.size + 1, 0, none⟩) (by simp only []; omega) _⟩
  | true =>
    have HE : Hid (agreeB U = (bksB U.fx U.rs && mjB U.fx U.rs)) := by unfold Hid agreeB; rw [q]; rfl
    have HSO := hide (safe_ok q)
    have HVA : Hid (∀ r ∈ U.rs, validR r = true) := fun r hr => by
      obtain ⟨i, hi, rfl⟩ := List.getElem_of_mem hr
      exact (wld_recs q).2 i hi
    have HFX : Hid (fixB U.fx = true) := wld_fix q
    have HBL : Hid (∀ r ∈ U.rs, (bookL r).length ≤ 120) := fun r hr => Nat.le_trans (bookL_len r) (valid_slB (HVA.out r hr))
    have g0 := FX.out.cell
    clear q
    gi_wp2_with fail
    refine ⟨trivial, (callsIn_wide.2 (rowOf_any lo _ U.fx w1 (HF.out.below HB.out) HFX.out)).mono ?_⟩
    rintro e w2 ⟨rfl, hb2, hrw⟩
    have HRW := hide hrw
    replace HB := hide (bt HB.out hb2)
    replace FX := hide (FX.out.on hb2)
    have FR2 := hide (FR.out.on hb2)
    have HS1 := FR.out.lt
    have hs12 := hb2.size
    have hlt1 := hrw.lt
    clear hb2 hrw g0 FR
    have hs0 := FX.out.lt
    have gA : ∀ o, (w2.alloc o).cell? ⟨w.heap.size, 0, none⟩ = some (.slice a0 U.rs.length k0) := fun o => by rw [cell_alloc_lt _ _ _ _ hs0, FX.out.cell 0]; rfl
    gi_wp2_with fail
    refine ⟨trivial, (recTold_in _ Fence.wide _ trivial rfl a0 U.rs.length k0).mono ?_⟩
    rintro e w3 ⟨rfl, hw3⟩
    obtain ⟨wl, hwl, HX1, HA, HBl, hsz⟩ : ∃ wl, wl = w3 ∧ Hid (Box wl (w2.heap.size + 1) #[.slice a0 U.rs.length k0]) ∧ Hid (AgW w (w.heap.size + 1) w2.heap.size w1.heap.size U.fx wl) ∧ Hid (Below w2.heap.size w2 wl) ∧ wl.heap.size = w2.heap.size + 2 := by
      subst hw3
      have hB2 : Below w2.heap.size w2 ((w2.alloc (.cells #[.pointer (some ⟨w1.heap.size, 0, none⟩)] 76)).alloc (.cells #[.slice a0 U.rs.length k0] 22)) := bt (one_al _ _) (one_al _ _)
      exact ⟨_, rfl, Box.new _ _ _ _ (by simp), ⟨HRW.out.below hB2 HRW.out.lt, (Box.new _ _ _ _ rfl).on (one_al _ _), FR2.out.on hB2, bt HB.out hB2⟩, hB2, by simp⟩
    subst hwl
    have hmm : w.heap.size + 1 < wl.heap.size ∧ w2.heap.size < wl.heap.size ∧ w1.heap.size < wl.heap.size ∧ w.heap.size ≤ wl.heap.size := by omega
    clear hw3 gA
    gi_wp2_with fail
    refine wpIn_rangeFunc_ownH rfl (by decide) (gf := 81) (lb := #[.pointer (some ⟨w2.heap.size + 1, 0, none⟩)]) rfl trivial (enters_of Try.func81 (by kernel_rfl) rfl)
      (told_stops lo U.rs wl _ (by decide) _ w _ HA.out.below HL.out HSO.out HVA.out HX1.out)
      KeepsBut.trans KeepsBut.put (Below.refl _ _) (fun _ => rfl)
      (fun pre W => AgW w (w.heap.size + 1) w2.heap.size w1.heap.size U.fx W ∧ pre.all (okC U.fx) = true)
      (fun c pre W => c = .ret ∧ (W.cell? ⟨w.heap.size + 1, 0, none⟩ = some (.bool false) ∧ w.heap.size ≤ W.heap.size ∧ Below w.heap.size w W) ∧ pre.all (okC U.fx) = false)
      (fun s A B row hs hg hr => ⟨hs.1.grow hmm hg (fun r e => (hr r e).1), hs.2⟩)
      (fun c s A B row hs hg hr => ⟨hs.1, ⟨cell_kept hs.2.1.1 hg (fun r e => (hr r e).2), Nat.le_trans hs.2.1.2.1 hg.size, hs.2.1.2.2.trans ⟨hg.os, hg.tape, hg.output, hg.size, fun k hk => hg.block k (by have := hs.2.1.2.1; omega) (fun e => by have := (hr _ e.symm).1; omega)⟩⟩, hs.2.2⟩)
      ⟨HA.out, rfl⟩
      (fun x a' _ => a' = { tmps := #[.agg #[.slice a0 U.rs.length k0, .slice a1 U.fl.length k1, .slice a2 U.fx.length k2], .pointer (some ⟨w.heap.size, 0, none⟩), .pointer (some ⟨w.heap.size + 1, 0, none⟩), .pointer (some ⟨w2.heap.size, 0, none⟩), .int .i64 (cutI x.1), .string x.2, .agg #[.slice a0 U.rs.length k0, .slice a1 U.fl.length k1, .slice a2 U.fx.length k2], .bool true, .bool false, .pointer (some ⟨w.heap.size, 2, none⟩), .slice a2 U.fx.length k2, .pointer (some ⟨w1.heap.size, 0, none⟩), .pointer (some ⟨w.heap.size, 0, none⟩), .slice a0 U.rs.length k0, .func (.func 81) #[] #[.pointer (some ⟨w2.heap.size + 1, 0, none⟩)], .int .i64 (cutI x.1), .string x.2, undef, undef, undef, undef, undef], defers := [] })
      (fun x a' s A B row hs hg hr => hs) ?assign ?body ?done ?stop
    case assign =>
      intro l pre x W K hI hK
      have HI := hide hI
      have HK := hide hK
      clear hI hK
      gi_wp2
      exact HK.out _ _ (KeepsFrom.refl _ _) (KeepsBut.refl _ _ _) HI.out rfl
    case body =>
      rintro l pre x a' W hll hrec ⟨hA, hall⟩ rfl hlen
      have HAW := hide hA
      have HALL := hide hall
      obtain ⟨hi1, hi2⟩ := cutI_in x.1
      obtain ⟨ix, hix⟩ : ∃ ix : Nat, cutI x.1 = (ix : Int) := ⟨(cutI x.1).toNat, by omega⟩
      have hi3 : ix ≤ 120 := by omega
      have HE1 : Hid (okC U.fx x = okAt U.fx (ix : Int) x.2) := by unfold Hid okC; rw [hix]
      rw [hix]
      have p0 := hA.ptr.cell 0
      have r0 := hA.res.cell 0
      have rf := hA.res.free 0
      simp at p0 r0
      clear hA hall hrec hi1 hi2 hix
      gi_wp2_with fail
      refine ⟨trivial, (CallsIn.inRound l (callsIn_wide.2 (hasOk W w1.heap.size ix x.2 _ HAW.out.row hi3))).mono ?_⟩
      rintro e w4 ⟨rfl, hw4⟩
      subst hw4
      rw [← HE1.out]
      cases hq : okC U.fx x with
      | true =>
        gi_wp2
        exact ⟨KeepsFrom.refl _ _, KeepsBut.refl _ _ _, HAW.out, by rw [List.all_append, HALL.out]; simp [hq]⟩
      | false =>
        gi_wp2
        exact ⟨(KeepsOthers.setCell _ _ _).from _, rfl, ⟨World.cell?_setCell_same' _ _ _ (by rw [r0]; rfl), by have := HAW.out.below.size; simpa using this, HAW.out.below.setCell (p := ⟨w.heap.size + 1, 0, none⟩) (by simp only []; omega) _⟩, by rw [List.all_append, HALL.out]; simp [hq]⟩
    case done =>
      rintro Dd ys W hD rfl ⟨hA, hall⟩ hK
      have HAW := hide hA
      have HRES : Hid (agreeB U = true) := by unfold Hid; rw [HE.out, ← told_cut HBL.out]; exact hall
      have r0 := hA.res.cell 0
      have rf := hA.res.free 0
      simp at r0
      clear hA hall
      gi_wp2
      have g := grownBy_setCell' W (w.heap.size + 1) (.bool true)
      have hK2 : (W.setCell ⟨w.heap.size + 1, 0, none⟩ (.bool true)).heap[Dd]? = some (.deferred (some [])) := (g.block Dd (Array.getElem?_eq_some_iff.1 hK).1 (fun e => by have := Option.some.inj e; (try simp only [] at this); omega)).trans hK
      have c1 : (W.setCell ⟨w.heap.size + 1, 0, none⟩ (.bool true)).cell? ⟨w.heap.size + 1, 0, none⟩ = some (.bool true) := World.cell?_setCell_same' _ _ _ (by rw [r0]; rfl)
      have HB2 : Below w.heap.size w (W.setCell ⟨w.heap.size + 1, 0, none⟩ (.bool true)) := HAW.out.below.setCell (p := ⟨w.heap.size + 1, 0, none⟩) (by simp only []; omega) _
      generalize W.setCell ⟨w.heap.size + 1, 0, none⟩ (.bool true) = W2 at *
      refine ⟨by simp, .inl ⟨_, _, rfl, run_takeDeferred hK2, ?_⟩⟩
      have c2 : (W2.putObj Dd (.deferred none)).cell? ⟨w.heap.size + 1, 0, none⟩ = some (.bool true) := (World.cell?_of_block (a := ⟨w.heap.size + 1, 0, none⟩) ((grownBy_putObj' W2 Dd _).block _ (World.block_lt_of_cell? _ _ c1) (fun e => by have := Option.some.inj e; (try simp only [] at this); omega))).trans c1
      refine ⟨.bool true, by simp [results, Try.results19, go_sem, c2], by rw [HRES.out], HB2.trans (belowK_b (w := w) (Nat.le_refl _) W2 Dd _ _ (by omega) hK2 rfl rfl)⟩
    case stop =>
      rintro Dd c pre W hD hto ⟨rfl, ⟨c1, hz, hB⟩, hall⟩ hK
      have HB2 := hide hB
      have HRES : Hid (agreeB U = false) := by unfold Hid; rw [HE.out]; exact told_no HBL.out hto hall
      clear hB hall
      gi_wp2
      refine ⟨by simp, .inl ⟨_, _, rfl, run_takeDeferred hK, ?_⟩⟩
      have c2 : (W.putObj Dd (.deferred none)).cell? ⟨w.heap.size + 1, 0, none⟩ = some (.bool false) := (World.cell?_of_block (a := ⟨w.heap.size + 1, 0, none⟩) ((grownBy_putObj' W Dd _).block _ (World.block_lt_of_cell? _ _ c1) (fun e => by have := Option.some.inj e; (try simp only [] at this); omega))).trans c1
      refine ⟨.bool false, by simp [results, Try.results19, go_sem, c2], by rw [HRES.out], HB2.out.trans (belowK_b (w := w) (Nat.le_refl _) W Dd _ _ (by omega) hK rfl rfl)⟩
end Go.Proofs.Ytoklnkojacdciaa
namespace Go.Proofs.Ytoklnkojacdciaa
open Go.RowKit Go.Deep

set_option maxRecDepth 20000 in
set_option maxHeartbeats 8000000 in
theorem law_agreer (cs : List Value) (U : Wd) (w : World) (h0 : WdC 0 w cs U)
    (himp : ∀ (cs : List Value) (w : World), WdC 0 w cs U → Calls Try.prog 19 #[.agg cs.toArray] w fun e w' => e = .returned (.bool (agreeB U)) ∧ Below w.heap.size w w') :
    Calls Try.prog 6 #[.agg cs.toArray] w fun e w' => e = .returned (.bool true) ∧ Below w.heap.size w w' := by
  have H0 := hide h0
  have HIMP := hide himp
  clear himp
  obtain ⟨a0, k0, a1, k1, a2, k2, rfl, -⟩ := h0
  show Calls Try.prog 6 #[.agg #[.slice a0 U.rs.length k0, .slice a1 U.fl.length k1, .slice a2 U.fx.length k2]] w _
  go_enter Try.func6, Try.ntmps6
  go_wp2_with fail
  generalize hWa : w.alloc _ = Wa
  have HB : Hid (Below w.heap.size w Wa) := by rw [← hWa]; exact (one_al w _)
  have F0 : Hid (Box Wa w.heap.size #[.slice a0 U.rs.length k0, .slice a1 U.fl.length k1, .slice a2 U.fx.length k2]) := by rw [← hWa]; exact (Box.new _ _ _ _ rfl)
  clear hWa
  refine (szWd_c 0 _ U _ _ (by omega) (by omega) (H0.out.below HB.out)).mono ?_
  rintro e w1 ⟨q0, rfl, hb, r0a, r0b, r0c⟩
  replace HB : Hid (Below w.heap.size w w1) := bt HB.out hb
  replace F0 := hide (F0.out.on hb)
  have HQ := hide r0c
  clear hb r0c
  by_cases hneg0 : q0 < 0
  · go_wp2
    go_ret
    exact ⟨rfl, HB.out⟩
  have M0 : Hid (WdSmall U) := HQ.out (by omega)
  clear HQ
  clear r0a r0b
  have g0 := F0.out.cell
  have gl := F0.out.lt
  go_wp2_with fail
  clear g0 gl hneg0
  refine (toWd_c 0 _ U _ (H0.out.below HB.out) M0.out).mono ?_
  rintro e v0 ⟨xs0, rfl, hb0, hs0⟩
  have C0 : Hid (Below w1.heap.size w1 v0) := hb0
  have S0_0 := hide (hs0.mono (Nat.zero_le _))
  clear hs0 hb0
  go_wp2_with fail
  refine (specAgree_any 0 _ U _ S0_0.out M0.out).mono ?_
  rintro e vz ⟨rfl, hbz⟩
  have CZ : Hid (Below w1.heap.size w1 vz) := bt C0.out hbz
  replace F0 := hide (F0.out.on CZ.out)
  replace HB : Hid (Below w.heap.size w vz) := bt HB.out CZ.out
  clear CZ C0 S0_0
  have g0 := F0.out.cell
  have gl := F0.out.lt
  go_wp2_with fail
  clear g0 gl
  refine (toWd_c 0 _ U _ (H0.out.below HB.out) M0.out).mono ?_
  rintro e u0 ⟨ys0, rfl, hb, hs⟩
  replace HB : Hid (Below w.heap.size w u0) := bt HB.out hb
  replace F0 := hide (F0.out.on hb)
  have S0 := hide (hs.mono (Nat.zero_le _))
  obtain ⟨b0, m0, b1, m1, b2, m2, rfl, -⟩ := hs
  clear hb
  rw [show (wdL U b0 m0 b1 m1 b2 m2).toArray = #[.slice b0 U.rs.length m0, .slice b1 U.fl.length m1, .slice b2 U.fx.length m2] from rfl]
  go_wp2_with fail
  generalize hWx : u0.alloc _ = W0
  have hbx : Below u0.heap.size u0 W0 := by rw [← hWx]; exact one_al _ _
  have X0 : Hid (Box W0 u0.heap.size #[.slice b0 U.rs.length m0, .slice b1 U.fl.length m1, .slice b2 U.fx.length m2]) := by rw [← hWx]; exact Box.new _ _ _ _ rfl
  replace HB : Hid (Below w.heap.size w W0) := bt HB.out hbx
  replace F0 := hide (F0.out.on hbx)
  replace S0 := hide (S0.out.below hbx)
  clear hWx hbx
  generalize hbeta : u0.heap.size = β0 at *
  refine (HIMP.out _ _ S0.out).mono ?_
  rintro e wz ⟨rfl, hb⟩
  replace HB : Hid (Below w.heap.size w wz) := bt HB.out hb
  replace F0 := hide (F0.out.on hb)
  replace X0 := hide (X0.out.on hb)
  replace S0 := hide (S0.out.below hb)
  clear hb
  generalize hQ : agreeB U = Q
  clear hQ
  have K := hide (H0.out.below HB.out)
  go_wp2
  go_region_held3 (Held2 wz β0 #[.slice b0 U.rs.length m0, .slice b1 U.fl.length m1, .slice b2 U.fx.length m2] w.heap.size #[.slice a0 U.rs.length k0, .slice a1 U.fl.length k1, .slice a2 U.fx.length k2])
    (first
      | (with_reducible exact Held2.drew X0.out F0.out)
      | (with_reducible exact Held2.on (by assumption) (by assumption)))
    (first
      | (go_at_call 14
         refine (toWd_c 0 _ U _ (K.out.below ((Below.refl _ _).drew)) M0.out).mono ?_
         rintro e ve0 ⟨zs0, rfl, hbe, hse⟩
         have CE : Hid (Below wz.heap.size wz ve0) := bt ((Below.refl _ _).drew) hbe
         have SE := hide hse
         clear hse)
      | (go_at_call 9
         refine (eqWd_c _ _ _ _ U _ (S0.out.below CE.out) SE.out).mono ?_
         rintro e vf0 ⟨rfl, hbf⟩
         have CF : Hid (Below wz.heap.size wz vf0) := bt CE.out hbf))
  replace HB : Hid (Below w.heap.size w vf0) := bt HB.out CF.out
  clear CE CF SE K
  go_wp2
  go_ret
  exact ⟨rfl, HB.out⟩
end Go.Proofs.Ytoklnkojacdciaa
