import Derived.Test.YtpdlcccnlciecaaGreatV37
import Derived.Deep.Upon
namespace Go.Proofs.YtpdlcccnlciecaaGreat
open Go.RowKit Go.Deep Go.Shelf

attribute [local go_sem] Oper.semAt_some

theorem res_cell_mid {P : Program} {fn : Func} {p : Tmp} {ty : TypeId} (h : fn.results = #[.cell p ty]) (tmps : Array Value) (w : World) (b o : Nat) (cs : List Value) (d : TypeDesc)
    (hp : tmps.getD p undef = .pointer (some ⟨b, o, none⟩)) (hc : w.rangeAt b o cs) (hu : P.underlying ty = some d) (hd : d.isRow = true) (hi : (P.info? ty).map (·.size) = some cs.length) :
    (results fn tmps).run P w = .ok (.agg cs.toArray) w := by
  have hp' : tmps[p]?.getD undef = .pointer (some ⟨b, o, none⟩) := by simpa using hp
  simp [results, h, hp', asAddr, run_loadVar_mid w b o ty cs d hc hu hd hi]
theorem cps_sub {lo : Nat} {w : World} {sv cv bv : Value} {B : Sb} (h : SbAt lo w sv cv bv B) : ∃ M : List CpL, B.cs = M.map (·.1) := by
  have hall : ∀ c ∈ B.cs, c.be.size ≤ maxLen := fun c hc => by
    obtain ⟨i, hi, rfl⟩ := List.getElem_of_mem hc
    obtain ⟨a, k, rfl⟩ := h.cps.form
    obtain ⟨b, off, -, -, -, hcc⟩ := h.cps.full' (by omega)
    exact (hcc i hi).1.s1
  refine ⟨B.cs.pmap (fun c hc => ⟨c, hc⟩) hall, ?_⟩
  rw [List.map_pmap]
  simp
theorem sub_len {B : Sb} {M : List CpL} (hM : B.cs = M.map (·.1)) (s : ByteArray) (p : Cp → Bool) : (((M.filter fun y => mineB s y.1).filter fun y => !y.1.en && p y.1).length) = ((liveL B s).filter p).length := by
  unfold liveL
  rw [hM, List.filter_map, List.filter_map, List.length_map, List.filter_filter, List.filter_filter]
  congr 1
  refine List.filter_congr fun y _ => ?_
  unfold liveB
  simp only [Function.comp]
  cases mineB s y.1 <;> cases y.1.en <;> cases p y.1 <;> rfl
theorem LkIs.one {lk : List Value} {m : Nat} {a0 a1 a2 : Option Addr} {n0 n1 n2 k0 k1 k2 : Nat} {B : Sb} {x : Sv} {n : Ct} {d : Int} (h : LkIs lk m (.slice a0 n0 k0) (.slice a1 n1 k1) (.slice a2 n2 k2) B x n d) : lk.toArray.all (·.oneCell') = true := by
  unfold LkIs at h
  rw [h]
  simp [Value.oneCell']
theorem LkIs.put {lk : List Value} {m : Nat} {sv cv bv : Value} {B : Sb} {x : Sv} {n : Ct} {d : Int} (h : LkIs lk m sv cv bv B x n d) (k : Int) : LkIs (lk.set 23 (.int .i64 k)) m sv cv bv B x n k := by
  unfold LkIs at h ⊢
  rw [h]
  rfl
abbrev zLook : List Value := [.int .i64 0, .slice none 0 0, .slice none 0 0, .slice none 0 0, .map none, .string ⟨#[]⟩, .int .i64 0, .bool false, .int .i64 0, .int .i64 0, .int .i64 0, .int .i64 0, .int .i64 0, .int .i64 0, .int .i64 0, .int .i64 0, .int .i64 0, .int .i64 0, .int .i64 0, .int .i64 0, .int .i64 0, .int .i64 0, .int .i64 0, .int .i64 0]
/-- the world while copies on drained berths are counted -/
structure LaW (w : World) (β : Nat) (lk : List Value) (Z : Nat) (k : Nat) (X : World) : Prop where
  lkb : Box X β (lk.set 23 (.int .i64 (k : Int))).toArray
  res : Box X (w.heap.size + 1 + 1) zLook.toArray
  below : Below w.heap.size w X
  big : Z ≤ X.heap.size
theorem LaW.grow {w : World} {β : Nat} {lk : List Value} {Z k : Nat} {X Y : World} {row : Option Nat} (h : LaW w β lk Z k X) (hg : X.grownBy Y row) (hr : ∀ r, row = some r → Z ≤ r) (hβ : β < Z) (hw : w.heap.size + 1 + 1 < Z) : LaW w β lk Z k Y :=
  ⟨h.lkb.ofBlk (hg.block _ h.lkb.lt (fun e => by have := hr _ e.symm; omega)), h.res.ofBlk (hg.block _ h.res.lt (fun e => by have := hr _ e.symm; omega)),
    h.below.trans ⟨hg.os, hg.tape, hg.output, hg.size, fun j hj => hg.block j (Nat.lt_of_lt_of_le hj h.below.size) (fun e => by have := hr _ e.symm; omega)⟩, Nat.le_trans h.big hg.size⟩


section
variable (lo m : Nat) (sv cv bv : Value) (B : Sb) (x : Sv) (w : World)

set_option maxRecDepth 100000 in
set_option maxHeartbeats 8000000 in
theorem lookAt_any (h : SbAt lo w sv cv bv B) (hx : IxAt w m B) (hv : validB B = true) :
    Calls Tryz.prog 55 #[.agg #[.int .i64 B.now, sv, cv, bv, .map (some m)], .agg #[.string x.nm, .int .i64 x.ve, .bool x.gn, .int .i64 x.im, .int .i64 x.wa, .int .i64 x.dn, .int .i64 x.ov, .int .i64 x.nx, .int .i64 x.pr, .int .i64 x.ls, .int .i64 x.ms, .int .i64 x.ld, .int .i64 x.cl]] w fun e w' => ∃ lk, e = .returned (.agg lk.toArray) ∧ Hid (LkIs lk m sv cv bv B x (cx B x) ((drL B x).length : Nat)) ∧ Below w.heap.size w w' := by
  have HK := hide h
  have HX := hide hx
  have HV := hide hv
  obtain ⟨M, hM⟩ := cps_sub h
  have HM := hide hM
  obtain ⟨a0, k0, rfl⟩ := h.svs.form
  obtain ⟨a1, k1, rfl⟩ := h.cps.form
  obtain ⟨a2, k2, rfl⟩ := h.bes.form
  clear h hx hv hM
  refine (callsIn_wide (n := 6)).1 ?_
  refine callsIn_of_wp_marks Tryz.func55 rfl trivial ?_ rfl
  simp only [Tryz.ntmps55, List.size_toArray, List.length_cons, List.length_nil, Nat.reduceAdd, Nat.reduceSub, Array.replicate_succ, Array.replicate_zero, List.push_toArray, List.append_toArray, List.nil_append, List.cons_append]
  refine wpIn_wide.2 ?_
  go_wp2_with fail
  generalize hWa : World.alloc (World.alloc (w.alloc _) _) _ = Wa
  have HBa : Hid (Below w.heap.size w Wa) := by unfold Hid; rw [← hWa]; exact ((one_al w _).alloc (by simp) _).alloc (by simp; omega) _
  have FX : Hid (Box Wa w.heap.size #[.int .i64 B.now, .slice a0 B.ss.length k0, .slice a1 B.cs.length k1, .slice a2 B.bs.length k2, .map (some m)]) := by unfold Hid; rw [← hWa]; exact ((Box.new _ _ _ _ rfl).on (one_al _ _)).on (one_al _ _)
  have FS : Hid (Box Wa (w.heap.size + 1) #[.string x.nm, .int .i64 x.ve, .bool x.gn, .int .i64 x.im, .int .i64 x.wa, .int .i64 x.dn, .int .i64 x.ov, .int .i64 x.nx, .int .i64 x.pr, .int .i64 x.ls, .int .i64 x.ms, .int .i64 x.ld, .int .i64 x.cl]) := by unfold Hid; rw [← hWa]; exact (Box.new _ _ _ _ (by simp)).on (one_al _ _)
  have FR : Hid (Box Wa (w.heap.size + 1 + 1) zLook.toArray) := by unfold Hid; rw [← hWa]; exact Box.new _ _ _ _ (by simp)
  clear hWa
  go_cut [5] from 6 to 12 (fun p wc => ∃ (β : Nat) (lk : List Value), p = .pointer (some ⟨β, 0, none⟩) ∧ Below Wa.heap.size Wa wc ∧ Box wc β lk.toArray ∧ Wa.heap.size ≤ β ∧ LkIs lk m (.slice a0 B.ss.length k0) (.slice a1 B.cs.length k1) (.slice a2 B.bs.length k2) B x (cx B x) 0)
  case first =>
    have HSX : Hid (∀ W, Below Wa.heap.size Wa W → W.rangeAt w.heap.size 0 [.int .i64 B.now, .slice a0 B.ss.length k0, .slice a1 B.cs.length k1, .slice a2 B.bs.length k2, .map (some m)]) := fun W hW => (FX.out.on hW).range rfl
    have HSK : Hid (∀ W, Below Wa.heap.size Wa W → W.rangeAt w.heap.size 0 [.int .i64 B.now, .slice a0 B.ss.length k0, .slice a1 B.cs.length k1, .slice a2 B.bs.length k2]) := fun W hW => by
      have := (FX.out.on hW).range (l := [.int .i64 B.now, .slice a0 B.ss.length k0, .slice a1 B.cs.length k1, .slice a2 B.bs.length k2, .map (some m)]) rfl
      intro j v hv
      refine this j v ?_
      match j with
      | 0 => exact hv
      | 1 => exact hv
      | 2 => exact hv
      | 3 => exact hv
      | j + 4 => simp at hv
    have HSS : Hid (∀ W, Below Wa.heap.size Wa W → W.rangeAt (w.heap.size + 1) 0 [.string x.nm, .int .i64 x.ve, .bool x.gn, .int .i64 x.im, .int .i64 x.wa, .int .i64 x.dn, .int .i64 x.ov, .int .i64 x.nx, .int .i64 x.pr, .int .i64 x.ls, .int .i64 x.ms, .int .i64 x.ld, .int .i64 x.cl]) := fun W hW => (FS.out.on hW).range rfl
    have HSZ : Hid (∀ W, Below Wa.heap.size Wa W → SbAt lo W (.slice a0 B.ss.length k0) (.slice a1 B.cs.length k1) (.slice a2 B.bs.length k2) B) := fun W hW => HK.out.below (bt HBa.out hW)
    refine Code.wp_mono NoPanic.imp ?_
    refine wp_region_held_drew (S := fun W => Below Wa.heap.size Wa W) (by kernel_rfl) ((Below.refl _ _).drew) (fun hHeld => ?_)
    refine wpAnyH_take (i := 0) rfl (by kernel_rfl) (by kernel_rfl) (by kernel_rfl) (fun _ _ _ h => h) (yieldsIf_load_mid (by rfl) 56 (.tmp 2) rfl w.heap.size 0 rfl [.int .i64 B.now, .slice a0 B.ss.length k0, .slice a1 B.cs.length k1, .slice a2 B.bs.length k2, .map (some m)] _ HSX.out Tryz.underlying56 rfl (by kernel_rfl)) hHeld ?_
    try simp only [Act.put, List.getElem_toArray, List.getElem_cons_zero, List.setIfInBounds_toArray, List.set_cons_zero, List.set_cons_succ]
    refine wpAnyH_take (i := 1) rfl (by kernel_rfl) (by kernel_rfl) (by kernel_rfl) (fun _ _ _ h => h) (yieldsIf_load_mid (by rfl) 50 (.tmp 3) rfl (w.heap.size + 1) 0 rfl [.string x.nm, .int .i64 x.ve, .bool x.gn, .int .i64 x.im, .int .i64 x.wa, .int .i64 x.dn, .int .i64 x.ov, .int .i64 x.nx, .int .i64 x.pr, .int .i64 x.ls, .int .i64 x.ms, .int .i64 x.ld, .int .i64 x.cl] _ HSS.out Tryz.underlying50 rfl (by kernel_rfl)) hHeld ?_
    try simp only [Act.put, List.getElem_toArray, List.getElem_cons_succ, List.getElem_cons_zero, List.setIfInBounds_toArray, List.set_cons_zero, List.set_cons_succ]
    refine wpAnyH_take (i := 2) (v := .pointer (some ⟨w.heap.size, 0, none⟩)) rfl (by kernel_rfl) (by kernel_rfl) (by kernel_rfl) (fun _ _ _ h => h) (Or.inl ⟨by rfl, fun W hW => by go_simp⟩) hHeld ?_
    try simp only [Act.put, List.getElem_toArray, List.getElem_cons_succ, List.getElem_cons_zero, List.setIfInBounds_toArray, List.set_cons_zero, List.set_cons_succ]
    refine wpAnyH_take (i := 3) rfl (by kernel_rfl) (by kernel_rfl) (by kernel_rfl) (fun _ _ _ h => h) (yieldsIf_load_mid (by rfl) 34 (.tmp 8) rfl w.heap.size 0 rfl [.int .i64 B.now, .slice a0 B.ss.length k0, .slice a1 B.cs.length k1, .slice a2 B.bs.length k2] _ HSK.out Tryz.underlying34 rfl (by kernel_rfl)) hHeld ?_
    try simp only [Act.put, List.getElem_toArray, List.getElem_cons_succ, List.getElem_cons_zero, List.setIfInBounds_toArray, List.set_cons_zero, List.set_cons_succ]
    refine wpAnyH_take (i := 4) rfl (by kernel_rfl) (by kernel_rfl) (by kernel_rfl) (fun _ _ _ h => h) (yieldsIf_load_mid (by rfl) 50 (.tmp 3) rfl (w.heap.size + 1) 0 rfl [.string x.nm, .int .i64 x.ve, .bool x.gn, .int .i64 x.im, .int .i64 x.wa, .int .i64 x.dn, .int .i64 x.ov, .int .i64 x.nx, .int .i64 x.pr, .int .i64 x.ls, .int .i64 x.ms, .int .i64 x.ld, .int .i64 x.cl] _ HSS.out Tryz.underlying50 rfl (by kernel_rfl)) hHeld ?_
    try simp only [Act.put, List.getElem_toArray, List.getElem_cons_succ, List.getElem_cons_zero, List.setIfInBounds_toArray, List.set_cons_zero, List.set_cons_succ]
    refine wpAnyH_ready (rs := [5, 7]) (by kernel_rfl) (by simp) ?_
    refine AllReadyH.cons rfl (fun K hK => ?_) (AllReadyH.cons rfl (fun K hK => ?_) AllReadyH.nil)
    · go_simp
      refine (countIn_any lo B.now _ _ _ B.cs x _ (HSZ.out _ ((Below.refl _ _).drew)).cps (by have := (valid_cps HV.out).1; omega) (valid_cps HV.out).2.2.1 (valid_cps HV.out).2.2.2 ⟨_, _, _, rfl⟩ ⟨_, _, _, rfl⟩).mono ?_
      rintro e w1 ⟨c, rfl, hc, hb1⟩
      have HC1 : Hid (Below Wa.heap.size Wa w1) := bt ((Below.refl _ _).drew) hb1
      have HCC : Hid (c = cx B x) := hc.out
      clear hb1 hc
      refine hK.out _ _ HC1.out (fun hHeld => ?_)
      clear hK K
      try simp only [Act.put, List.getElem_toArray, List.getElem_cons_succ, List.getElem_cons_zero, List.setIfInBounds_toArray, List.set_cons_zero, List.set_cons_succ]
      refine wpAnyH_take (i := 6) (v := .agg #[.int .i64 B.now, .slice a0 B.ss.length k0, .slice a1 B.cs.length k1, .slice a2 B.bs.length k2, .map (some m), .string x.nm, .int .i64 x.ve, .bool x.gn, .int .i64 x.im, .int .i64 x.wa, .int .i64 x.dn, .int .i64 x.ov, .int .i64 x.nx, .int .i64 x.pr, .int .i64 x.ls, .int .i64 x.ms, .int .i64 x.ld, .int .i64 x.cl, .int .i64 c.li, .int .i64 c.re, .int .i64 c.ol, .int .i64 c.fa, .int .i64 c.en, .int .i64 0]) rfl (by kernel_rfl) (by kernel_rfl) (by kernel_rfl) (fun _ _ _ h => h) (Or.inl ⟨by rfl, fun W hW => by go_simp⟩) hHeld ?_
      try simp only [Act.put, List.getElem_toArray, List.getElem_cons_succ, List.getElem_cons_zero, List.setIfInBounds_toArray, List.set_cons_zero, List.set_cons_succ]
      refine wpAnyH_ready (rs := [7]) (by kernel_rfl) (by simp) ?_
      refine AllReadyH.cons rfl (fun K hK => ?_) AllReadyH.nil
      go_simp
      refine hK.out _ _ (bt HC1.out (one_al _ _)) (fun hHeld => ?_)
      clear hK K
      try simp only [Act.put, List.getElem_toArray, List.getElem_cons_succ, List.getElem_cons_zero, List.setIfInBounds_toArray, List.set_cons_zero, List.set_cons_succ]
      have hz2 := HC1.out.size
      generalize hW3 : w1.alloc _ = W3 at *
      have H3 : Hid (Below Wa.heap.size Wa W3) := by unfold Hid; rw [← hW3]; exact bt HC1.out (one_al _ _)
      have H3B : Hid (Box W3 w1.heap.size zLook.toArray) := by unfold Hid; rw [← hW3]; exact Box.new _ _ _ _ rfl
      have HT : Hid (W3.there w1.heap.size 0 24) := H3B.out.there rfl
      clear hW3
      refine wpAnyH_ready (rs := [8]) (by kernel_rfl) (by simp) ?_
      refine AllReadyH.cons rfl (fun K hK => ?_) AllReadyH.nil
      rw [if_pos (by rfl)]
      refine wp_store_mid 105 (.tmp 5) (.tmp 12) rfl w1.heap.size 0 #[.int .i64 B.now, .slice a0 B.ss.length k0, .slice a1 B.cs.length k1, .slice a2 B.bs.length k2, .map (some m), .string x.nm, .int .i64 x.ve, .bool x.gn, .int .i64 x.im, .int .i64 x.wa, .int .i64 x.dn, .int .i64 x.ov, .int .i64 x.nx, .int .i64 x.pr, .int .i64 x.ls, .int .i64 x.ms, .int .i64 x.ld, .int .i64 x.cl, .int .i64 c.li, .int .i64 c.re, .int .i64 c.ol, .int .i64 c.fa, .int .i64 c.en, .int .i64 0] rfl rfl HT.out Tryz.sizeLook (by simp [Value.oneCell']) ?_
      refine hK.out _ _ (Below.sets (by omega) _ _ H3.out) (fun hHeld => ?_)
      clear hK K
      try simp only [Act.put, List.getElem_toArray, List.getElem_cons_succ, List.getElem_cons_zero]
      refine wpAnyH_done (by kernel_rfl) ?_ _
      try simp only [List.getElem_toArray, List.getElem_cons_succ, List.getElem_cons_zero]
      refine NoPanic.normal ?_
      go_wp2
      go_meet
      exact ⟨w1.heap.size, [.int .i64 B.now, .slice a0 B.ss.length k0, .slice a1 B.cs.length k1, .slice a2 B.bs.length k2, .map (some m), .string x.nm, .int .i64 x.ve, .bool x.gn, .int .i64 x.im, .int .i64 x.wa, .int .i64 x.dn, .int .i64 x.ov, .int .i64 x.nx, .int .i64 x.pr, .int .i64 x.ls, .int .i64 x.ms, .int .i64 x.ld, .int .i64 x.cl, .int .i64 c.li, .int .i64 c.re, .int .i64 c.ol, .int .i64 c.fa, .int .i64 c.en, .int .i64 0], rfl, Below.sets (by omega) _ _ H3.out, H3B.out.full rfl, by omega, by unfold LkIs; rw [HCC.out]⟩
    · go_simp
      refine hK.out _ _ ((one_al _ _).drew) (fun hHeld => ?_)
      clear hK K
      try simp only [Act.put, List.getElem_toArray, List.getElem_cons_succ, List.getElem_cons_zero, List.setIfInBounds_toArray, List.set_cons_zero, List.set_cons_succ]
      generalize hW2 : World.alloc _ _ = W2 at *
      have H2 : Hid (Below Wa.heap.size Wa W2) := by unfold Hid; rw [← hW2]; exact one_al _ _
      have H2B : Hid (Box W2 Wa.heap.size zLook.toArray) := by unfold Hid; rw [← hW2]; exact Box.new _ _ _ _ rfl
      clear hW2
      refine wpAnyH_ready (rs := [5]) (by kernel_rfl) (by simp) ?_
      refine AllReadyH.cons rfl (fun K hK => ?_) AllReadyH.nil
      go_simp
      refine (countIn_any lo B.now _ _ _ B.cs x _ (HSZ.out _ H2.out.drew).cps (by have := (valid_cps HV.out).1; omega) (valid_cps HV.out).2.2.1 (valid_cps HV.out).2.2.2 ⟨_, _, _, rfl⟩ ⟨_, _, _, rfl⟩).mono ?_
      rintro e W3 ⟨c, rfl, hc, hb1⟩
      have H3 : Hid (Below Wa.heap.size Wa W3) := bt H2.out.drew hb1
      have H3B : Hid (Box W3 Wa.heap.size zLook.toArray) := H2B.out.drew.on hb1
      have HT : Hid (W3.there Wa.heap.size 0 24) := H3B.out.there rfl
      have HCC : Hid (c = cx B x) := hc.out
      clear hb1 hc
      refine hK.out _ _ H3.out (fun hHeld => ?_)
      clear hK K
      try simp only [Act.put, List.getElem_toArray, List.getElem_cons_succ, List.getElem_cons_zero, List.setIfInBounds_toArray, List.set_cons_zero, List.set_cons_succ]
      refine wpAnyH_take (i := 6) (v := .agg #[.int .i64 B.now, .slice a0 B.ss.length k0, .slice a1 B.cs.length k1, .slice a2 B.bs.length k2, .map (some m), .string x.nm, .int .i64 x.ve, .bool x.gn, .int .i64 x.im, .int .i64 x.wa, .int .i64 x.dn, .int .i64 x.ov, .int .i64 x.nx, .int .i64 x.pr, .int .i64 x.ls, .int .i64 x.ms, .int .i64 x.ld, .int .i64 x.cl, .int .i64 c.li, .int .i64 c.re, .int .i64 c.ol, .int .i64 c.fa, .int .i64 c.en, .int .i64 0]) rfl (by kernel_rfl) (by kernel_rfl) (by kernel_rfl) (fun _ _ _ h => h) (Or.inl ⟨by rfl, fun W hW => by go_simp⟩) hHeld ?_
      try simp only [Act.put, List.getElem_toArray, List.getElem_cons_succ, List.getElem_cons_zero, List.setIfInBounds_toArray, List.set_cons_zero, List.set_cons_succ]
      refine wpAnyH_ready (rs := [8]) (by kernel_rfl) (by simp) ?_
      refine AllReadyH.cons rfl (fun K hK => ?_) AllReadyH.nil
      rw [if_pos (by rfl)]
      refine wp_store_mid 105 (.tmp 5) (.tmp 12) rfl Wa.heap.size 0 #[.int .i64 B.now, .slice a0 B.ss.length k0, .slice a1 B.cs.length k1, .slice a2 B.bs.length k2, .map (some m), .string x.nm, .int .i64 x.ve, .bool x.gn, .int .i64 x.im, .int .i64 x.wa, .int .i64 x.dn, .int .i64 x.ov, .int .i64 x.nx, .int .i64 x.pr, .int .i64 x.ls, .int .i64 x.ms, .int .i64 x.ld, .int .i64 x.cl, .int .i64 c.li, .int .i64 c.re, .int .i64 c.ol, .int .i64 c.fa, .int .i64 c.en, .int .i64 0] rfl rfl HT.out Tryz.sizeLook (by simp [Value.oneCell']) ?_
      refine hK.out _ _ (Below.sets (by omega) _ _ H3.out) (fun hHeld => ?_)
      clear hK K
      try simp only [Act.put, List.getElem_toArray, List.getElem_cons_succ, List.getElem_cons_zero]
      refine wpAnyH_done (by kernel_rfl) ?_ _
      try simp only [List.getElem_toArray, List.getElem_cons_succ, List.getElem_cons_zero]
      refine NoPanic.normal ?_
      go_wp2
      go_meet
      exact ⟨Wa.heap.size, [.int .i64 B.now, .slice a0 B.ss.length k0, .slice a1 B.cs.length k1, .slice a2 B.bs.length k2, .map (some m), .string x.nm, .int .i64 x.ve, .bool x.gn, .int .i64 x.im, .int .i64 x.wa, .int .i64 x.dn, .int .i64 x.ov, .int .i64 x.nx, .int .i64 x.pr, .int .i64 x.ls, .int .i64 x.ms, .int .i64 x.ld, .int .i64 x.cl, .int .i64 c.li, .int .i64 c.re, .int .i64 c.ol, .int .i64 c.fa, .int .i64 c.en, .int .i64 0], rfl, Below.sets (by omega) _ _ H3.out, H3B.out.full rfl, by omega, by unfold LkIs; rw [HCC.out]⟩
  case rest =>
  revert wc
  intro Wc hcut
  obtain ⟨β, lk, rfl, hbc, hlb, hβ, hlk⟩ := hcut
  have hza : w.heap.size + 1 + 1 < Wa.heap.size := FR.out.lt
  have HBc := hide (bt HBa.out hbc)
  have FRc := hide (FR.out.on hbc)
  have FL := hide hlb
  have hβ2 := hlb.lt
  have HLK := hide hlk
  have hzc := hbc.size
  clear hbc hlb hlk FX FS FR HBa
  go_wp2_with (first | (refine wpList_load_mid rfl 105 (.tmp 5) rfl β 0 rfl lk _ FL.out.rng Tryz.underlying105 rfl HLK.out.size ?_))
  refine ((callsIn_wide (n := 6)).1 (live_in lk _ 6 74 (.agg lk.toArray))).mono ?_
  rintro e wl ⟨rfl, hbl, hF1, hF2, hsz⟩
  have HBl := hide (bt HBc.out hbl)
  have FRl := hide (FRc.out.on hbl)
  have FLl := hide (FL.out.on hbl)
  have F1 := hide hF1
  have F2 := hide hF2
  have hu : risR rBe B.bs = true := by
    have := HV.out
    unfold validB at this
    simp only [Bool.and_eq_true] at this
    exact this.2.2.2.2.2.1.2
  have HU := hide hu
  clear hbl hF1 hF2 HBc FRc FL hu
  go_wp2_with fail
  have FL0 : Hid (Box wl β (lk.set 23 (.int .i64 ((0 : Nat) : Int))).toArray) := by
    have : lk.set 23 (.int .i64 ((0 : Nat) : Int)) = lk := by rw [HLK.out]; rfl
    unfold Hid
    rw [this]
    exact FLl.out
  refine (wpIn_wide (n := 6)).1 ?_
  refine range_pass (by decide) (gf := 97) (lb := #[.pointer (some ⟨Wc.heap.size, 0, none⟩), .pointer (some ⟨Wc.heap.size + 1, 0, none⟩)]) rfl (enters_of Tryz.func97 (by kernel_rfl) rfl)
    (live_passes lo m _ _ _ B x (cx B x) 0 lk wl 5 (by decide) (fun k => k = β) w _ _ (drB B) 74 (.agg lk.toArray) M HM.out HLK.out HBl.out HK.out HV.out (fun k hk => by omega) (by omega) (by omega) (wl.heap.size + 2) (by omega) (by omega) F1.out F2.out (enters_of Tryz.func74 (by kernel_rfl) rfl)
      (fun W y hW => onDrained_any lo m _ _ _ B x (cx B x) 0 lk y.1 W HLK.out (HK.out.below hW) (HX.out.below hW) y.2 HU.out))
    KeepsBut.trans KeepsBut.put (Below.refl _ _) (fun _ => rfl)
    (fun pre X => LaW w β lk wl.heap.size pre.length X)
    (fun s X Y row hs hg hr => hs.grow hg (fun r e => (hr r e).1) (by omega) (by omega))
    ⟨FL0.out, FRl.out, HBl.out, Nat.le_refl _⟩
    (fun y a' _ => a' = { tmps := #[.agg #[.int .i64 B.now, .slice a0 B.ss.length k0, .slice a1 B.cs.length k1, .slice a2 B.bs.length k2, .map (some m)], .agg #[.string x.nm, .int .i64 x.ve, .bool x.gn, .int .i64 x.im, .int .i64 x.wa, .int .i64 x.dn, .int .i64 x.ov, .int .i64 x.nx, .int .i64 x.pr, .int .i64 x.ls, .int .i64 x.ms, .int .i64 x.ld, .int .i64 x.cl], .pointer (some ⟨w.heap.size, 0, none⟩), .pointer (some ⟨w.heap.size + 1, 0, none⟩), .pointer (some ⟨w.heap.size + 1 + 1, 0, none⟩), .pointer (some ⟨β, 0, none⟩), u6, u7, u8, u9, u10, u11, u12, .agg lk.toArray, .agg lk.toArray, .func (.func 74) #[.agg lk.toArray] #[], .func (.func 97) #[] #[.pointer (some ⟨Wc.heap.size, 0, none⟩), .pointer (some ⟨Wc.heap.size + 1, 0, none⟩)], .agg #[.string y.1.se, .int .i64 y.1.nu, .int .i64 y.1.ve, .int .i64 y.1.im, .int .i64 y.1.st, .bool y.1.en, .string y.1.be], undef, undef, undef, undef, undef], defers := [] })
    (fun _ _ _ _ _ _ hs _ _ => hs) ?assign ?body ?done
  case assign =>
    intro l pre y X hI
    gi_wp2
    exact ⟨KeepsFrom.refl _ _, KeepsBut.refl _ _ _, hI, by simp⟩
  case body =>
    rintro l pre y a' X hll hrec hI rfl hlen hzb
    have HI := hide hI
    have c23 : X.cell? ⟨β, 23, none⟩ = some (.int .i64 (pre.length : Int)) := by rw [hI.lkb.cell 23]; simp [HLK.out.len]
    have f23 := hI.lkb.free 23
    have hn2 : pre.length ≤ 200 := by have := (valid_cps HV.out).1; omega
    have v1 : IntKind.i64.wrap ((pre.length : Int) + 1) = (pre.length : Int) + 1 := by rw [IntWalk.i64_left]; unfold wrap64; omega
    have hX := hI.below.size
    have hbg := hI.big
    have HN : Hid (LaW w β lk wl.heap.size (pre ++ [y]).length (X.setCell ⟨β, 23, none⟩ (.int .i64 ((pre.length : Int) + 1)))) := by
      refine ⟨?_, hI.res.setFar (by simp only []; omega) _, hI.below.setCell (by simp only []; omega) _, by simpa [World.setCell] using hI.big⟩
      have := hI.lkb.set (k := 23) (.int .i64 ((pre.length : Int) + 1)) (by simp [HLK.out.len])
      have e : ((pre ++ [y]).length : Int) = (pre.length : Int) + 1 := by simp
      rw [e]
      simpa using this
    clear hI hrec hlen hzb
    gi_wp2
    exact ⟨(KeepsOthers.setCell _ _ _).from _, KeepsBut.set _ _ _ rfl, HN.out⟩
  case done =>
    rintro Dd ys X hD rfl hI hKd
    have HRL := HLK.out.put ((drL B x).length : Nat)
    have HLen := sub_len HM.out x.nm (drB B)
    have HI := hide hI
    have hX := hI.below.size
    have hlz : LaW w β lk wl.heap.size (drL B x).length X := by
      have : (drL B x).length = ((M.filter fun y => mineB x.nm y.1).filter fun y => !y.1.en && drB B y.1).length := HLen.symm
      rw [this]
      exact hI
    have HLZ := hide hlz
    have HRL := hide HRL
    clear hI HI HLen hlz
    have HT : Hid (X.there (w.heap.size + 1 + 1) 0 24) := HLZ.out.res.there rfl
    generalize hlk2 : lk.set 23 (.int .i64 ((drL B x).length : Int)) = lk2 at *
    have e24 : lk2.toArray.size = 24 := by rw [List.size_toArray]; exact HRL.out.len
    have HT2 : Hid (X.there (w.heap.size + 1 + 1) 0 lk2.toArray.size) := by unfold Hid; rw [e24]; exact HT.out
    have HZ2 : Hid ((Tryz.prog.info? 105).map (·.size) = some lk2.toArray.size) := by unfold Hid; rw [List.size_toArray]; exact HRL.out.size
    have HO2 := hide HRL.out.one
    have HL2 : Hid (Box X β lk2.toArray) := by unfold Hid; rw [← hlk2]; exact HLZ.out.lkb
    clear hlk2
    go_wp2_with (first
      | (refine wpList_load_mid rfl 105 (.tmp 5) rfl β 0 rfl lk2 _ HL2.out.rng Tryz.underlying105 rfl HRL.out.size ?_)
      | (refine wpList_store_mid rfl 105 (.tmp 4) (.tmp 22) rfl (w.heap.size + 1 + 1) 0 lk2.toArray rfl rfl HT2.out HZ2.out HO2.out ?_; refine Hid.out ?_))
    generalize hW : World.setCells X _ _ _ = X2
    have HX2 : Hid (Below w.heap.size w X2) := by unfold Hid; rw [← hW]; exact Below.sets (by omega) _ _ HLZ.out.below
    have FR2 : Hid (Box X2 (w.heap.size + 1 + 1) lk2.toArray) := by unfold Hid; rw [← hW]; exact HLZ.out.res.full (by rw [e24]; rfl)
    have hK2 : X2.heap[Dd]? = some (.deferred (some [])) := by
      rw [← hW]
      exact (World.heap_setCells_other X _ _ _ (Array.getElem?_eq_some_iff.1 hKd).1 (by omega)).trans hKd
    clear hW HT2 HZ2 HO2 HL2 HT e24
    refine hide ?_
    go_wp2
    refine ⟨by simp, .inl ⟨_, _, rfl, run_takeDeferred hK2, ?_⟩⟩
    have FR3 : Box (X2.putObj Dd (.deferred none)) (w.heap.size + 1 + 1) lk2.toArray := FR2.out.ofBlk ((grownBy_putObj' X2 Dd _).block _ FR2.out.lt (fun e => by have := Option.some.inj e; omega))
    exact ⟨_, res_cell_mid rfl _ _ (w.heap.size + 1 + 1) 0 lk2 _ rfl FR3.rng Tryz.underlying105 rfl HRL.out.size, lk2, rfl, HRL.out, HX2.out.trans (belowK_b (w := w) (Nat.le_refl _) X2 Dd _ _ (by omega) hK2 rfl rfl)⟩
end
end Go.Proofs.YtpdlcccnlciecaaGreat
