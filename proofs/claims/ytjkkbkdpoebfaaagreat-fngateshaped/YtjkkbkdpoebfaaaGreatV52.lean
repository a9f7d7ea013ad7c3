import Derived.Test.YtjkkbkdpoebfaaaGreatV48
import Derived.Test.YtjkkbkdpoebfaaaGreatV49
import Derived.Test.YtjkkbkdpoebfaaaGreatV50
import Derived.Test.YtjkkbkdpoebfaaaGreatV51
namespace Go.Proofs.YtjkkbkdpoebfaaaGreat
open Go.RowKit Go.Deep

theorem field_values (k n t v e h r : Value) (W : World) : (Instr.field 27 (.agg #[k, n, t, v, e, h, r]) 3).run Tryz.prog W = .ok v W := by
  simp [Instr.field, go_sem, run_underlying Tryz.underlying27, Result.andThen, asAgg]
theorem Ob_sizeI : (Tryz.prog.info? 27).map (·.size) = some 7 := by kernel_rfl
theorem ob_one (k n t : ByteArray) (a b : Option Addr) (c d e f : Nat) (en : Bool) (ver : Int) (_u : Nat) : Array.all #[Value.string k, .string n, .string t, .slice a c d, .bool en, .slice b e f, .int .i64 ver] (·.oneCell') = true := by simp [Value.oneCell']
theorem StrsOwn.setFar {lo hi b i : Nat} {w : World} {v : Value} {L : List ByteArray} (h : StrsOwn lo hi w v L) (hp : b < lo ∨ hi ≤ b) (u : Value) : StrsOwn lo hi (w.setCell ⟨b, i, none⟩ u) v L := by
  rcases h with h | ⟨c, off, cap, h1, h2, h3, h4, h5, h6, h7, h8, h9⟩
  · exact Or.inl h
  · exact Or.inr ⟨c, off, cap, h1, h2, h3, by simpa [World.setCell] using h4, fun j hj => by rw [cell_setCell_ne _ _ _ _ (by show c ≠ b; omega)]; exact h5 j hj, h6, h7, h8, fun j => by rw [World.frozen?_setCell]; exact h9 j⟩
theorem StrsOwn.sets {lo hi b : Nat} {v : Value} {L : List ByteArray} (hb : b < lo ∨ hi ≤ b) : ∀ (vs : List Value) (o : Nat) {W : World}, StrsOwn lo hi W v L → StrsOwn lo hi (W.setCells b o vs) v L
  | [], _, _, h => h
  | u :: vs, o, _, h => StrsOwn.sets hb vs (o + 1) (h.setFar hb u)
/-- what stays of kinds of shapes -/
theorem fieldsOf_some {Ss : List Sh} {s : ByteArray} {x : Sh} (h : shOf Ss s = some x) : fieldsOf Ss s = x.fields := by
  unfold fieldsOf; unfold shOf at h; rw [h]; rfl
theorem fieldsOf_none {Ss : List Sh} {s : ByteArray} (h : shOf Ss s = none) : fieldsOf Ss s = [] := by
  unfold fieldsOf; unfold shOf at h; rw [h]; rfl
theorem fieldsOf_len {Ss : List Sh} {s : ByteArray} (h : shapesB Ss = true) : (fieldsOf Ss s).length ≤ 6 := by
  cases hx : shOf Ss s with
  | none => rw [fieldsOf_none hx]; simp
  | some x => rw [fieldsOf_some hx]; exact fields_six (shapes_fields h (shOf_mem hx).1)
theorem named_all {Ss : List Sh} {Ms : List Md} {s : ByteArray} (hm : mendsB Ss Ms = true) : Named (fieldsOf Ss s) s Ms := by
  cases hx : shOf Ss s with
  | none =>
    intro m hmm hk
    have hb := mendsB_mend hm hmm
    unfold mendB at hb
    rw [hk, hx] at hb
    cases hb
  | some x =>
    rw [fieldsOf_some hx]
    have h := named_of hm hx
    rw [(shOf_mem hx).2] at h
    exact h
/-- what a mend decides is there -/
theorem shaped_dec {Ss : List Sh} {Ms : List Md} {s : ByteArray} {V F : List ByteArray} (hm : mendsB Ss Ms = true) (h : ShapeTo Ss Ms s V F) (hl : (fieldsOf Ss s).length = V.length) : ∀ k (_ : k < (fieldsOf Ss s).length) (hk' : k < F.length) (u : ByteArray), decM (fieldsOf Ss s) s Ms F (fieldsOf Ss s)[k].nm = some u → F[k] = u := fun k hk hk' u hu => by
  cases hx : shOf Ss s with
  | none => rw [fieldsOf_none hx] at hk; simp at hk
  | some x =>
    have e := fieldsOf_some hx
    rcases h with ⟨y, _, hy, hyl, hfix⟩ | ⟨hc, _⟩
    · rw [hx] at hy
      cases hy
      simp only [e] at hk hu
      have hkd := (shOf_mem hx).2
      have hap := fields_apart (shapes_fields (mendsB_shapes hm) (shOf_mem hx).1) hk
      have hat := hfix.at' _ (mem_namesF.2 ⟨k, hk, rfl⟩)
      rw [hap, hkd, hu, List.getElem?_eq_getElem hk'] at hat
      simpa using hat
    · rcases hc with hc | hc
      · rw [hm] at hc; cases hc
      · rw [e] at hl; exact absurd hl (hc x hx)
theorem shape_no {Ss : List Sh} {Ms : List Md} {s : ByteArray} {V F : List ByteArray} (hm : mendsB Ss Ms = false) (h : ShapeTo Ss Ms s V F) : F = V := by
  rcases h with ⟨_, h1, _⟩ | ⟨_, h1⟩
  · rw [hm] at h1; cases h1
  · exact h1

set_option maxRecDepth 20000 in
set_option maxHeartbeats 16000000 in
theorem law_shaped (v : Value) (bs : List UInt8) (w : World) (hc : CodeIn w v bs) :
    Calls Tryz.prog 3 #[v] w fun e w' => e = .returned (.bool true) ∧ Below w.heap.size w w' := by
  have HC := hide hc
  obtain ⟨va, vcap, rfl⟩ := hc.form
  clear hc
  go_enter Tryz.func3, Tryz.ntmps3
  by_cases hbig : (1048576 : Int) < (bs.length : Int)
  · go_wp2
    go_ret
    exact ⟨rfl, Below.refl _ _⟩
  go_wp2_with fail
  refine (drawShaped_any _ bs w HC.out).mono ?_
  rintro e w1 ⟨vs, vm, vv, hv, k, n, t, ver, lo, Ls, Lm, V, Ho, rfl, hl1, hl2, hsg, hls, hmd, hlm, ⟨ω1, hV⟩, hVl, ⟨ω2, hH⟩, hHl, -, hb⟩
  obtain ⟨sa, sc, rfl⟩ := ZRw.form hsg
  obtain ⟨ma, mc, rfl⟩ := hmd.form
  obtain ⟨xa, xc, rfl⟩ := hV.at'.form'
  obtain ⟨ya, yc, rfl⟩ := hH.at'.form'
  have HSG := hide hsg
  have HMD := hide hmd.at
  have HV := hide hV.at'
  have HH := hide hH.at'
  have HW := hide hb
  clear hsg hmd hV hH hb hbig HC
  go_upto_region 4 with fail
  generalize hW2 : w1.alloc _ = w2
  have hba : Below w1.heap.size w1 w2 := by rw [← hW2]; exact one_al _ _
  have BO : Hid (Box w2 w1.heap.size #[.string k, .string n, .string t, .slice xa V.length xc, .bool false, .slice ya Ho.length yc, .int .i64 ver]) := by unfold Hid; rw [← hW2]; exact Box.new _ _ _ _ rfl
  replace HSG := hide (ZRw.below sh_keeps HSG.out hba)
  replace HMD := hide (HMD.out.below hba)
  replace HV := hide (HV.out.below hba)
  replace HH := hide (HH.out.below hba)
  replace HW := hide (bt HW.out hba)
  have hlo2 : lo ≤ w2.heap.size := by have := hba.size; omega
  clear hba hW2
  generalize w1.heap.size = β at *
  obtain ⟨F, hFT⟩ := ShapeTo.exists (Ls.map SX.sh) Lm k V
  have HFT := hide hFT
  have hFl : F.length ≤ 11 := by rw [hFT.len]; exact hVl
  have HFL : Hid (F.length = V.length) := hFT.len
  clear hFT
  have z : ∀ i, w2.cell? ⟨β, i, none⟩ = #[.string k, .string n, .string t, .slice xa V.length xc, .bool false, .slice ya Ho.length yc, .int .i64 ver][i]? := BO.out.cell
  have zl := BO.out.lt
  go_wp2_with fail
  clear z zl
  refine (implShapedF_any k n t _ _ _ _ false ver V Ho (Ls.map SX.sh) Lm F w2 lo lo (shsG_at HSG.out) HMD.out HV.out HH.out (by omega) (by omega) HFT.out).mono ?_
  rintro e w3 ⟨v3, h3, rfl, hb, mid, -, -, hx1, hx2⟩
  obtain ⟨pa, pc, rfl⟩ := hx1.form
  obtain ⟨ra, rc, rfl⟩ := hx2.form
  have HF := hide hx1.at
  have HFH := hide hx2.at
  replace HSG := hide (ZRw.below sh_keeps HSG.out hb)
  replace HMD := hide (HMD.out.below hb)
  replace HV := hide (HV.out.below hb)
  replace HH := hide (HH.out.below hb)
  replace HW := hide (bt HW.out hb)
  replace BO := hide (BO.out.on hb)
  have hlo3 : lo ≤ w3.heap.size := by have := hb.size; omega
  clear hb hx1 hx2
  go_upto_region 5 with fail
  generalize hW4 : w3.alloc _ = w4
  have hba : Below w3.heap.size w3 w4 := by rw [← hW4]; exact one_al _ _
  have BA : Hid (Box w4 w3.heap.size #[.string k, .string n, .string t, .slice pa F.length pc, .bool false, .slice ra Ho.length rc, .int .i64 ver]) := by unfold Hid; rw [← hW4]; exact Box.new _ _ _ _ rfl
  replace HSG := hide (ZRw.below sh_keeps HSG.out hba)
  have HM := hide (HMD.out.below hba)
  have HS : Hid (ShsAt lo w4 (.slice sa Ls.length sc) (Ls.map SX.sh)) := shsG_at HSG.out
  replace HV := hide (HV.out.below hba)
  replace HH := hide (HH.out.below hba)
  replace HF := hide (HF.out.below hba)
  replace HFH := hide (HFH.out.below hba)
  replace HW := hide (bt HW.out hba)
  replace BO := hide (BO.out.on hba)
  have hlo4 : lo ≤ w4.heap.size := by have := hba.size; omega
  clear hba hW4 HMD hlo2 hlo3
  generalize w3.heap.size = α at *
  have KP : Hid (∀ W, Below w4.heap.size w4 W → (∀ i, W.cell? ⟨α, i, none⟩ = #[.string k, .string n, .string t, .slice pa F.length pc, .bool false, .slice ra Ho.length rc, .int .i64 ver][i]?) ∧ (∀ i, W.cell? ⟨β, i, none⟩ = #[.string k, .string n, .string t, .slice xa V.length xc, .bool false, .slice ya Ho.length yc, .int .i64 ver][i]?)) := fun W hW => ⟨(BA.out.on hW).cell, (BO.out.on hW).cell⟩
  have HB : Hid (Below w4.heap.size w4 w4) := Below.refl _ _
  have hLs : (Ls.map SX.sh).length ≤ 1000 := by rw [List.length_map]; omega
  generalize hSs : Ls.map SX.sh = Ss at *
  have HSS := hide hSs
  clear hSs
  have hbd : Below w4.heap.size w4 w4.drew := (Below.refl _ _).drew
  have HBX := hide (bt HB.out hbd)
  clear hbd
  refine wp_region_held_drew (S := fun W => (∀ i, W.cell? ⟨α, i, none⟩ = #[.string k, .string n, .string t, .slice pa F.length pc, .bool false, .slice ra Ho.length rc, .int .i64 ver][i]?) ∧ (∀ i, W.cell? ⟨β, i, none⟩ = #[.string k, .string n, .string t, .slice xa V.length xc, .bool false, .slice ya Ho.length yc, .int .i64 ver][i]?)) (by kernel_rfl) (KP.out _ HBX.out) (fun hHeld => ?_)
  refine wpAnyH_take (i := 0) (v := .agg #[.string k, .string n, .string t, .slice pa F.length pc, .bool false, .slice ra Ho.length rc, .int .i64 ver]) rfl (by kernel_rfl) (by kernel_rfl) (by kernel_rfl) (fun _ _ _ h => h) (Or.inl ⟨by rfl, fun W hW => by obtain ⟨hq1, hq2⟩ := hW; go_simp⟩) hHeld ?_
  try simp only [Act.put, List.getElem_toArray, List.getElem_cons_zero, List.setIfInBounds_toArray, List.set_cons_zero, List.set_cons_succ]
  refine wpAnyH_take (i := 1) (v := .slice sa Ls.length sc) rfl (by kernel_rfl) (by kernel_rfl) (by kernel_rfl) (fun _ _ _ h => h) (Or.inl ⟨by rfl, fun W hW => by obtain ⟨hq1, hq2⟩ := hW; go_simp⟩) hHeld ?_
  try simp only [Act.put, List.getElem_toArray, List.getElem_cons_succ, List.getElem_cons_zero, List.setIfInBounds_toArray, List.set_cons_zero, List.set_cons_succ]
  refine wpAnyH_take (i := 2) (v := .slice ma Lm.length mc) rfl (by kernel_rfl) (by kernel_rfl) (by kernel_rfl) (fun _ _ _ h => h) (Or.inl ⟨by rfl, fun W hW => by obtain ⟨hq1, hq2⟩ := hW; go_simp⟩) hHeld ?_
  try simp only [Act.put, List.getElem_toArray, List.getElem_cons_succ, List.getElem_cons_zero, List.setIfInBounds_toArray, List.set_cons_zero, List.set_cons_succ]
  refine wpAnyH_take (i := 3) (v := .agg #[.string k, .string n, .string t, .slice xa V.length xc, .bool false, .slice ya Ho.length yc, .int .i64 ver]) rfl (by kernel_rfl) (by kernel_rfl) (by kernel_rfl) (fun _ _ _ h => h) (Or.inl ⟨by rfl, fun W hW => by obtain ⟨hq1, hq2⟩ := hW; go_simp⟩) hHeld ?_
  try simp only [Act.put, List.getElem_toArray, List.getElem_cons_succ, List.getElem_cons_zero, List.setIfInBounds_toArray, List.set_cons_zero, List.set_cons_succ]
  refine wpAnyH_ready (rs := [4]) (by kernel_rfl) (by simp) ?_
  refine AllReadyH.cons rfl (fun KK hK => ?_) AllReadyH.nil
  go_simp
  refine (specShapedF_any k n t _ _ _ _ false ver V Ho Ss Lm F _ lo lo (HS.out.below HBX.out) (HM.out.below HBX.out) (HV.out.below HBX.out) (HH.out.below HBX.out) (by omega) (by omega) HFT.out).mono ?_
  rintro e w5 ⟨vP, hP, rfl, hb, mid, -, -, hx1, hx2⟩
  obtain ⟨aP, cP, rfl⟩ := hx1.form
  obtain ⟨bP, dP, rfl⟩ := hx2.form
  have HVP := hide hx1.at
  have HHP := hide hx2.at
  clear hx1 hx2
  replace HBX := hide (bt HBX.out hb)
  clear hb
  try go_wp2_with fail
  refine hK.out _ _ (KP.out _ HBX.out) (fun hHeld => ?_)
  clear hK KK
  try simp only [Act.put, List.getElem_toArray, List.getElem_cons_succ, List.getElem_cons_zero, List.setIfInBounds_toArray, List.set_cons_zero, List.set_cons_succ]
  refine wpAnyH_ready (rs := [5]) (by kernel_rfl) (by simp) ?_
  refine AllReadyH.cons rfl (fun KK hK => ?_) AllReadyH.nil
  go_simp
  refine (wgObject_same k n t _ _ _ _ F Ho false ver _ (HF.out.below HBX.out) (HVP.out) (HFH.out.below HBX.out) (HHP.out)).mono ?_
  rintro e w6 ⟨rfl, hb⟩
  replace HBX := hide (bt HBX.out hb)
  clear hb
  try go_wp2_with fail
  refine hK.out _ _ (KP.out _ HBX.out) (fun hHeld => ?_)
  clear hK KK
  try simp only [Act.put, List.getElem_toArray, List.getElem_cons_succ, List.getElem_cons_zero, List.setIfInBounds_toArray, List.set_cons_zero, List.set_cons_succ]
  refine wpAnyH_take (i := 6) (v := .bool false) rfl (by kernel_rfl) (by kernel_rfl) (by kernel_rfl) (fun _ _ _ h => h) (Or.inl ⟨by rfl, fun W hW => by obtain ⟨hq1, hq2⟩ := hW; go_simp⟩) hHeld ?_
  try simp only [Act.put, List.getElem_toArray, List.getElem_cons_succ, List.getElem_cons_zero, List.setIfInBounds_toArray, List.set_cons_zero, List.set_cons_succ]
  refine wpAnyH_take (i := 7) (v := .bool false) rfl (by kernel_rfl) (by kernel_rfl) (by kernel_rfl) (fun _ _ _ h => h) (Or.inl ⟨by rfl, fun W hW => by obtain ⟨hq1, hq2⟩ := hW; go_simp⟩) hHeld ?_
  try simp only [Act.put, List.getElem_toArray, List.getElem_cons_succ, List.getElem_cons_zero, List.setIfInBounds_toArray, List.set_cons_zero, List.set_cons_succ]
  refine wpAnyH_take (i := 8) (v := .slice sa Ls.length sc) rfl (by kernel_rfl) (by kernel_rfl) (by kernel_rfl) (fun _ _ _ h => h) (Or.inl ⟨by rfl, fun W hW => by obtain ⟨hq1, hq2⟩ := hW; go_simp⟩) hHeld ?_
  try simp only [Act.put, List.getElem_toArray, List.getElem_cons_succ, List.getElem_cons_zero, List.setIfInBounds_toArray, List.set_cons_zero, List.set_cons_succ]
  refine wpAnyH_take (i := 9) (v := .slice ma Lm.length mc) rfl (by kernel_rfl) (by kernel_rfl) (by kernel_rfl) (fun _ _ _ h => h) (Or.inl ⟨by rfl, fun W hW => by obtain ⟨hq1, hq2⟩ := hW; go_simp⟩) hHeld ?_
  try simp only [Act.put, List.getElem_toArray, List.getElem_cons_succ, List.getElem_cons_zero, List.setIfInBounds_toArray, List.set_cons_zero, List.set_cons_succ]
  refine wpAnyH_take (i := 10) (v := .agg #[.string k, .string n, .string t, .slice pa F.length pc, .bool false, .slice ra Ho.length rc, .int .i64 ver]) rfl (by kernel_rfl) (by kernel_rfl) (by kernel_rfl) (fun _ _ _ h => h) (Or.inl ⟨by rfl, fun W hW => by obtain ⟨hq1, hq2⟩ := hW; go_simp⟩) hHeld ?_
  try simp only [Act.put, List.getElem_toArray, List.getElem_cons_succ, List.getElem_cons_zero, List.setIfInBounds_toArray, List.set_cons_zero, List.set_cons_succ]
  refine wpAnyH_take (i := 12) (v := .agg #[.string k, .string n, .string t, .slice pa F.length pc, .bool false, .slice ra Ho.length rc, .int .i64 ver]) rfl (by kernel_rfl) (by kernel_rfl) (by kernel_rfl) (fun _ _ _ h => h) (Or.inl ⟨by rfl, fun W hW => by obtain ⟨hq1, hq2⟩ := hW; go_simp⟩) hHeld ?_
  try simp only [Act.put, List.getElem_toArray, List.getElem_cons_succ, List.getElem_cons_zero, List.setIfInBounds_toArray, List.set_cons_zero, List.set_cons_succ]
  refine wpAnyH_ready (rs := [11]) (by kernel_rfl) (by simp) ?_
  refine AllReadyH.cons rfl (fun KK hK => ?_) AllReadyH.nil
  go_simp
  refine (implShapedF_any k n t _ _ _ _ false ver F Ho Ss Lm F _ lo lo (HS.out.below HBX.out) (HM.out.below HBX.out) (HF.out.below HBX.out) (HFH.out.below HBX.out) (by omega) (by omega) HFT.out.again).mono ?_
  rintro e w7 ⟨vQ, hQ, rfl, hb, mid, -, -, hx1, hx2⟩
  obtain ⟨aQ, cQ, rfl⟩ := hx1.form
  obtain ⟨bQ, dQ, rfl⟩ := hx2.form
  have HVQ := hide hx1.at
  have HHQ := hide hx2.at
  clear hx1 hx2
  replace HBX := hide (bt HBX.out hb)
  clear hb
  try go_wp2_with fail
  refine hK.out _ _ (KP.out _ HBX.out) (fun hHeld => ?_)
  clear hK KK
  try simp only [Act.put, List.getElem_toArray, List.getElem_cons_succ, List.getElem_cons_zero, List.setIfInBounds_toArray, List.set_cons_zero, List.set_cons_succ]
  refine wpAnyH_ready (rs := [13]) (by kernel_rfl) (by simp) ?_
  refine AllReadyH.cons rfl (fun KK hK => ?_) AllReadyH.nil
  go_simp
  refine (wgObject_same k n t _ _ _ _ F Ho false ver _ (HVQ.out) (HF.out.below HBX.out) (HHQ.out) (HFH.out.below HBX.out)).mono ?_
  rintro e w8 ⟨rfl, hb⟩
  replace HBX := hide (bt HBX.out hb)
  clear hb
  try go_wp2_with fail
  refine hK.out _ _ (KP.out _ HBX.out) (fun hHeld => ?_)
  clear hK KK
  try simp only [Act.put, List.getElem_toArray, List.getElem_cons_succ, List.getElem_cons_zero, List.setIfInBounds_toArray, List.set_cons_zero, List.set_cons_succ]
  refine wpAnyH_take (i := 14) (v := .bool false) rfl (by kernel_rfl) (by kernel_rfl) (by kernel_rfl) (fun _ _ _ h => h) (Or.inl ⟨by rfl, fun W hW => by obtain ⟨hq1, hq2⟩ := hW; go_simp⟩) hHeld ?_
  try simp only [Act.put, List.getElem_toArray, List.getElem_cons_succ, List.getElem_cons_zero, List.setIfInBounds_toArray, List.set_cons_zero, List.set_cons_succ]
  refine wpAnyH_take (i := 15) (v := .bool false) rfl (by kernel_rfl) (by kernel_rfl) (by kernel_rfl) (fun _ _ _ h => h) (Or.inl ⟨by rfl, fun W hW => by obtain ⟨hq1, hq2⟩ := hW; go_simp⟩) hHeld ?_
  try simp only [Act.put, List.getElem_toArray, List.getElem_cons_succ, List.getElem_cons_zero, List.setIfInBounds_toArray, List.set_cons_zero, List.set_cons_succ]
  refine wpAnyH_done (by kernel_rfl) ?_ _
  replace HB := HBX
  clear HBX hHeld
  go_wp2_with fail
  refine (implMends_any lo lo _ _ Ss Lm w8 (HS.out.below HB.out) (HM.out.below HB.out)).mono ?_
  rintro e w9 ⟨rfl, hb⟩
  replace HB := hide (bt HB.out hb)
  clear hb
  cases hmb : mendsB Ss Lm with
  | false =>
    have HFV : Hid (F = V) := shape_no hmb HFT.out
    have HF2 : Hid (StrsAt w4 (.slice pa F.length pc) V) := by have h := HF.out; rw [HFV.out] at h ⊢; exact h
    go_upto_region 8 with fail
    have hbd : Below w9.heap.size w9 w9.drew := (Below.refl _ _).drew
    have HBX := hide (bt HB.out hbd)
    clear hbd
    refine wp_region_held_drew (S := fun W => (∀ i, W.cell? ⟨α, i, none⟩ = #[.string k, .string n, .string t, .slice pa F.length pc, .bool false, .slice ra Ho.length rc, .int .i64 ver][i]?) ∧ (∀ i, W.cell? ⟨β, i, none⟩ = #[.string k, .string n, .string t, .slice xa V.length xc, .bool false, .slice ya Ho.length yc, .int .i64 ver][i]?)) (by kernel_rfl) (KP.out _ HBX.out) (fun hHeld => ?_)
    refine wpAnyH_take (i := 0) (v := .agg #[.string k, .string n, .string t, .slice pa F.length pc, .bool false, .slice ra Ho.length rc, .int .i64 ver]) rfl (by kernel_rfl) (by kernel_rfl) (by kernel_rfl) (fun _ _ _ h => h) (Or.inl ⟨by rfl, fun W hW => by obtain ⟨hq1, hq2⟩ := hW; go_simp⟩) hHeld ?_
    try simp only [Act.put, List.getElem_toArray, List.getElem_cons_zero, List.setIfInBounds_toArray, List.set_cons_zero, List.set_cons_succ]
    refine wpAnyH_take (i := 1) (v := .agg #[.string k, .string n, .string t, .slice xa V.length xc, .bool false, .slice ya Ho.length yc, .int .i64 ver]) rfl (by kernel_rfl) (by kernel_rfl) (by kernel_rfl) (fun _ _ _ h => h) (Or.inl ⟨by rfl, fun W hW => by obtain ⟨hq1, hq2⟩ := hW; go_simp⟩) hHeld ?_
    try simp only [Act.put, List.getElem_toArray, List.getElem_cons_succ, List.getElem_cons_zero, List.setIfInBounds_toArray, List.set_cons_zero, List.set_cons_succ]
    refine wpAnyH_ready (rs := [2]) (by kernel_rfl) (by simp) ?_
    refine AllReadyH.cons rfl (fun KK hK => ?_) AllReadyH.nil
    go_simp
    refine (wgObject_same k n t _ _ _ _ V Ho false ver _ (HF2.out.below HBX.out) (HV.out.below HBX.out) (HFH.out.below HBX.out) (HH.out.below HBX.out)).mono ?_
    rintro e w10 ⟨rfl, hb⟩
    replace HBX := hide (bt HBX.out hb)
    clear hb
    try go_wp2_with fail
    refine hK.out _ _ (KP.out _ HBX.out) (fun hHeld => ?_)
    clear hK KK
    try simp only [Act.put, List.getElem_toArray, List.getElem_cons_succ, List.getElem_cons_zero, List.setIfInBounds_toArray, List.set_cons_zero, List.set_cons_succ]
    refine wpAnyH_take (i := 3) (v := .bool true) rfl (by kernel_rfl) (by kernel_rfl) (by kernel_rfl) (fun _ _ _ h => h) (Or.inl ⟨by rfl, fun W hW => by obtain ⟨hq1, hq2⟩ := hW; go_simp⟩) hHeld ?_
    try simp only [Act.put, List.getElem_toArray, List.getElem_cons_succ, List.getElem_cons_zero, List.setIfInBounds_toArray, List.set_cons_zero, List.set_cons_succ]
    refine wpAnyH_take (i := 4) (v := .slice sa Ls.length sc) rfl (by kernel_rfl) (by kernel_rfl) (by kernel_rfl) (fun _ _ _ h => h) (Or.inl ⟨by rfl, fun W hW => by obtain ⟨hq1, hq2⟩ := hW; go_simp⟩) hHeld ?_
    try simp only [Act.put, List.getElem_toArray, List.getElem_cons_succ, List.getElem_cons_zero, List.setIfInBounds_toArray, List.set_cons_zero, List.set_cons_succ]
    refine wpAnyH_take (i := 5) (v := .slice ma Lm.length mc) rfl (by kernel_rfl) (by kernel_rfl) (by kernel_rfl) (fun _ _ _ h => h) (Or.inl ⟨by rfl, fun W hW => by obtain ⟨hq1, hq2⟩ := hW; go_simp⟩) hHeld ?_
    try simp only [Act.put, List.getElem_toArray, List.getElem_cons_succ, List.getElem_cons_zero, List.setIfInBounds_toArray, List.set_cons_zero, List.set_cons_succ]
    refine wpAnyH_take (i := 6) (v := .agg #[.string k, .string n, .string t, .slice xa V.length xc, .bool false, .slice ya Ho.length yc, .int .i64 ver]) rfl (by kernel_rfl) (by kernel_rfl) (by kernel_rfl) (fun _ _ _ h => h) (Or.inl ⟨by rfl, fun W hW => by obtain ⟨hq1, hq2⟩ := hW; go_simp⟩) hHeld ?_
    try simp only [Act.put, List.getElem_toArray, List.getElem_cons_succ, List.getElem_cons_zero, List.setIfInBounds_toArray, List.set_cons_zero, List.set_cons_succ]
    refine wpAnyH_take (i := 8) (v := .agg #[.string k, .string n, .string t, .slice xa V.length xc, .bool false, .slice ya Ho.length yc, .int .i64 ver]) rfl (by kernel_rfl) (by kernel_rfl) (by kernel_rfl) (fun _ _ _ h => h) (Or.inl ⟨by rfl, fun W hW => by obtain ⟨hq1, hq2⟩ := hW; go_simp⟩) hHeld ?_
    try simp only [Act.put, List.getElem_toArray, List.getElem_cons_succ, List.getElem_cons_zero, List.setIfInBounds_toArray, List.set_cons_zero, List.set_cons_succ]
    refine wpAnyH_ready (rs := [7]) (by kernel_rfl) (by simp) ?_
    refine AllReadyH.cons rfl (fun KK hK => ?_) AllReadyH.nil
    go_simp
    refine (implMendedF_any k n t _ _ _ _ false ver V Ho Ss Lm V _ lo lo (HS.out.below HBX.out) (HM.out.below HBX.out) (HV.out.below HBX.out) (HH.out.below HBX.out) (by omega) (by omega) (Or.inr ⟨Or.inl hmb, rfl⟩)).mono ?_
    rintro e w11 ⟨vQ, hQ, rfl, hb, mid, -, -, hx1, hx2⟩
    obtain ⟨aQ, cQ, rfl⟩ := hx1.form
    obtain ⟨bQ, dQ, rfl⟩ := hx2.form
    have HVQ := hide hx1.at
    have HHQ := hide hx2.at
    clear hx1 hx2
    replace HBX := hide (bt HBX.out hb)
    clear hb
    try go_wp2_with fail
    refine hK.out _ _ (KP.out _ HBX.out) (fun hHeld => ?_)
    clear hK KK
    try simp only [Act.put, List.getElem_toArray, List.getElem_cons_succ, List.getElem_cons_zero, List.setIfInBounds_toArray, List.set_cons_zero, List.set_cons_succ]
    refine wpAnyH_ready (rs := [9]) (by kernel_rfl) (by simp) ?_
    refine AllReadyH.cons rfl (fun KK hK => ?_) AllReadyH.nil
    go_simp
    refine (wgObject_same k n t _ _ _ _ V Ho false ver _ (HVQ.out) (HV.out.below HBX.out) (HHQ.out) (HH.out.below HBX.out)).mono ?_
    rintro e w12 ⟨rfl, hb⟩
    replace HBX := hide (bt HBX.out hb)
    clear hb
    try go_wp2_with fail
    refine hK.out _ _ (KP.out _ HBX.out) (fun hHeld => ?_)
    clear hK KK
    try simp only [Act.put, List.getElem_toArray, List.getElem_cons_succ, List.getElem_cons_zero, List.setIfInBounds_toArray, List.set_cons_zero, List.set_cons_succ]
    refine wpAnyH_take (i := 10) (v := .bool true) rfl (by kernel_rfl) (by kernel_rfl) (by kernel_rfl) (fun _ _ _ h => h) (Or.inl ⟨by rfl, fun W hW => by obtain ⟨hq1, hq2⟩ := hW; go_simp⟩) hHeld ?_
    try simp only [Act.put, List.getElem_toArray, List.getElem_cons_succ, List.getElem_cons_zero, List.setIfInBounds_toArray, List.set_cons_zero, List.set_cons_succ]
    refine wpAnyH_ready (rs := [11]) (by kernel_rfl) (by simp) ?_
    refine AllReadyH.cons rfl (fun KK hK => ?_) AllReadyH.nil
    go_simp
    refine hK.out _ _ (KP.out _ HBX.out) (fun hHeld => ?_)
    clear hK KK hHeld
    try simp only [Act.put, List.getElem_toArray, List.getElem_cons_succ, List.getElem_cons_zero, List.setIfInBounds_toArray, List.set_cons_zero, List.set_cons_succ]
    refine wpAnyH_done (by kernel_rfl) ?_ _
    go_wp2
    go_ret
    exact ⟨rfl, bt HW.out HBX.out⟩
  | true =>
    have HGL : Hid (goalV Ss k F = F) := ShapeTo.filled hmb HFT.out
    go_upto_region 9 with fail
    have hbd : Below w9.heap.size w9 w9.drew := (Below.refl _ _).drew
    have HBX := hide (bt HB.out hbd)
    clear hbd
    refine wp_region_held_drew (S := fun W => (∀ i, W.cell? ⟨α, i, none⟩ = #[.string k, .string n, .string t, .slice pa F.length pc, .bool false, .slice ra Ho.length rc, .int .i64 ver][i]?) ∧ (∀ i, W.cell? ⟨β, i, none⟩ = #[.string k, .string n, .string t, .slice xa V.length xc, .bool false, .slice ya Ho.length yc, .int .i64 ver][i]?)) (by kernel_rfl) (KP.out _ HBX.out) (fun hHeld => ?_)
    refine wpAnyH_take (i := 0) (v := .slice sa Ls.length sc) rfl (by kernel_rfl) (by kernel_rfl) (by kernel_rfl) (fun _ _ _ h => h) (Or.inl ⟨by rfl, fun W hW => by obtain ⟨hq1, hq2⟩ := hW; go_simp⟩) hHeld ?_
    try simp only [Act.put, List.getElem_toArray, List.getElem_cons_zero, List.setIfInBounds_toArray, List.set_cons_zero, List.set_cons_succ]
    refine wpAnyH_take (i := 1) (v := .agg #[.string k, .string n, .string t, .slice pa F.length pc, .bool false, .slice ra Ho.length rc, .int .i64 ver]) rfl (by kernel_rfl) (by kernel_rfl) (by kernel_rfl) (fun _ _ _ h => h) (Or.inl ⟨by rfl, fun W hW => by obtain ⟨hq1, hq2⟩ := hW; go_simp⟩) hHeld ?_
    try simp only [Act.put, List.getElem_toArray, List.getElem_cons_succ, List.getElem_cons_zero, List.setIfInBounds_toArray, List.set_cons_zero, List.set_cons_succ]
    refine wpAnyH_take (i := 3) (v := .agg #[.string k, .string n, .string t, .slice pa F.length pc, .bool false, .slice ra Ho.length rc, .int .i64 ver]) rfl (by kernel_rfl) (by kernel_rfl) (by kernel_rfl) (fun _ _ _ h => h) (Or.inl ⟨by rfl, fun W hW => by obtain ⟨hq1, hq2⟩ := hW; go_simp⟩) hHeld ?_
    try simp only [Act.put, List.getElem_toArray, List.getElem_cons_succ, List.getElem_cons_zero, List.setIfInBounds_toArray, List.set_cons_zero, List.set_cons_succ]
    refine wpAnyH_ready (rs := [2]) (by kernel_rfl) (by simp) ?_
    refine AllReadyH.cons rfl (fun KK hK => ?_) AllReadyH.nil
    go_simp
    refine (implFill_any k n t _ _ _ false ver F Ho Ss _ lo (HS.out.below HBX.out) (HF.out.below HBX.out) (HFH.out.below HBX.out) (by omega) (by omega)).mono ?_
    rintro e w13 ⟨vP, hP, rfl, hb, mid, -, -, hx1, hx2⟩
    rw [HGL.out] at hx1
    obtain ⟨aP, cP, rfl⟩ := hx1.form
    obtain ⟨bP, dP, rfl⟩ := hx2.form
    have HVP := hide hx1.at
    have HHP := hide hx2.at
    clear hx1 hx2
    replace HBX := hide (bt HBX.out hb)
    clear hb
    try go_wp2_with fail
    refine hK.out _ _ (KP.out _ HBX.out) (fun hHeld => ?_)
    clear hK KK
    try simp only [Act.put, List.getElem_toArray, List.getElem_cons_succ, List.getElem_cons_zero, List.setIfInBounds_toArray, List.set_cons_zero, List.set_cons_succ]
    refine wpAnyH_ready (rs := [4]) (by kernel_rfl) (by simp) ?_
    refine AllReadyH.cons rfl (fun KK hK => ?_) AllReadyH.nil
    go_simp
    refine (wgObject_same k n t _ _ _ _ F Ho false ver _ (HVP.out) (HF.out.below HBX.out) (HHP.out) (HFH.out.below HBX.out)).mono ?_
    rintro e w14 ⟨rfl, hb⟩
    replace HBX := hide (bt HBX.out hb)
    clear hb
    try go_wp2_with fail
    refine hK.out _ _ (KP.out _ HBX.out) (fun hHeld => ?_)
    clear hK KK
    try simp only [Act.put, List.getElem_toArray, List.getElem_cons_succ, List.getElem_cons_zero, List.setIfInBounds_toArray, List.set_cons_zero, List.set_cons_succ]
    refine wpAnyH_take (i := 5) (v := .bool false) rfl (by kernel_rfl) (by kernel_rfl) (by kernel_rfl) (fun _ _ _ h => h) (Or.inl ⟨by rfl, fun W hW => by obtain ⟨hq1, hq2⟩ := hW; go_simp⟩) hHeld ?_
    try simp only [Act.put, List.getElem_toArray, List.getElem_cons_succ, List.getElem_cons_zero, List.setIfInBounds_toArray, List.set_cons_zero, List.set_cons_succ]
    refine wpAnyH_take (i := 6) (v := .bool false) rfl (by kernel_rfl) (by kernel_rfl) (by kernel_rfl) (fun _ _ _ h => h) (Or.inl ⟨by rfl, fun W hW => by obtain ⟨hq1, hq2⟩ := hW; go_simp⟩) hHeld ?_
    try simp only [Act.put, List.getElem_toArray, List.getElem_cons_succ, List.getElem_cons_zero, List.setIfInBounds_toArray, List.set_cons_zero, List.set_cons_succ]
    refine wpAnyH_take (i := 7) (v := .slice sa Ls.length sc) rfl (by kernel_rfl) (by kernel_rfl) (by kernel_rfl) (fun _ _ _ h => h) (Or.inl ⟨by rfl, fun W hW => by obtain ⟨hq1, hq2⟩ := hW; go_simp⟩) hHeld ?_
    try simp only [Act.put, List.getElem_toArray, List.getElem_cons_succ, List.getElem_cons_zero, List.setIfInBounds_toArray, List.set_cons_zero, List.set_cons_succ]
    refine wpAnyH_take (i := 8) (v := .slice ma Lm.length mc) rfl (by kernel_rfl) (by kernel_rfl) (by kernel_rfl) (fun _ _ _ h => h) (Or.inl ⟨by rfl, fun W hW => by obtain ⟨hq1, hq2⟩ := hW; go_simp⟩) hHeld ?_
    try simp only [Act.put, List.getElem_toArray, List.getElem_cons_succ, List.getElem_cons_zero, List.setIfInBounds_toArray, List.set_cons_zero, List.set_cons_succ]
    refine wpAnyH_take (i := 9) (v := .agg #[.string k, .string n, .string t, .slice pa F.length pc, .bool false, .slice ra Ho.length rc, .int .i64 ver]) rfl (by kernel_rfl) (by kernel_rfl) (by kernel_rfl) (fun _ _ _ h => h) (Or.inl ⟨by rfl, fun W hW => by obtain ⟨hq1, hq2⟩ := hW; go_simp⟩) hHeld ?_
    try simp only [Act.put, List.getElem_toArray, List.getElem_cons_succ, List.getElem_cons_zero, List.setIfInBounds_toArray, List.set_cons_zero, List.set_cons_succ]
    refine wpAnyH_take (i := 11) (v := .agg #[.string k, .string n, .string t, .slice pa F.length pc, .bool false, .slice ra Ho.length rc, .int .i64 ver]) rfl (by kernel_rfl) (by kernel_rfl) (by kernel_rfl) (fun _ _ _ h => h) (Or.inl ⟨by rfl, fun W hW => by obtain ⟨hq1, hq2⟩ := hW; go_simp⟩) hHeld ?_
    try simp only [Act.put, List.getElem_toArray, List.getElem_cons_succ, List.getElem_cons_zero, List.setIfInBounds_toArray, List.set_cons_zero, List.set_cons_succ]
    refine wpAnyH_ready (rs := [10]) (by kernel_rfl) (by simp) ?_
    refine AllReadyH.cons rfl (fun KK hK => ?_) AllReadyH.nil
    go_simp
    refine (implMendedF_any k n t _ _ _ _ false ver F Ho Ss Lm F _ lo lo (HS.out.below HBX.out) (HM.out.below HBX.out) (HF.out.below HBX.out) (HFH.out.below HBX.out) (by omega) (by omega) HFT.out.mended).mono ?_
    rintro e w15 ⟨vQ, hQ, rfl, hb, mid, -, -, hx1, hx2⟩
    obtain ⟨aQ, cQ, rfl⟩ := hx1.form
    obtain ⟨bQ, dQ, rfl⟩ := hx2.form
    have HVQ := hide hx1.at
    have HHQ := hide hx2.at
    clear hx1 hx2
    replace HBX := hide (bt HBX.out hb)
    clear hb
    try go_wp2_with fail
    refine hK.out _ _ (KP.out _ HBX.out) (fun hHeld => ?_)
    clear hK KK
    try simp only [Act.put, List.getElem_toArray, List.getElem_cons_succ, List.getElem_cons_zero, List.setIfInBounds_toArray, List.set_cons_zero, List.set_cons_succ]
    refine wpAnyH_ready (rs := [12]) (by kernel_rfl) (by simp) ?_
    refine AllReadyH.cons rfl (fun KK hK => ?_) AllReadyH.nil
    go_simp
    refine (wgObject_same k n t _ _ _ _ F Ho false ver _ (HVQ.out) (HF.out.below HBX.out) (HHQ.out) (HFH.out.below HBX.out)).mono ?_
    rintro e w16 ⟨rfl, hb⟩
    replace HBX := hide (bt HBX.out hb)
    clear hb
    try go_wp2_with fail
    refine hK.out _ _ (KP.out _ HBX.out) (fun hHeld => ?_)
    clear hK KK
    try simp only [Act.put, List.getElem_toArray, List.getElem_cons_succ, List.getElem_cons_zero, List.setIfInBounds_toArray, List.set_cons_zero, List.set_cons_succ]
    refine wpAnyH_take (i := 13) (v := .bool false) rfl (by kernel_rfl) (by kernel_rfl) (by kernel_rfl) (fun _ _ _ h => h) (Or.inl ⟨by rfl, fun W hW => by obtain ⟨hq1, hq2⟩ := hW; go_simp⟩) hHeld ?_
    try simp only [Act.put, List.getElem_toArray, List.getElem_cons_succ, List.getElem_cons_zero, List.setIfInBounds_toArray, List.set_cons_zero, List.set_cons_succ]
    refine wpAnyH_take (i := 14) (v := .bool false) rfl (by kernel_rfl) (by kernel_rfl) (by kernel_rfl) (fun _ _ _ h => h) (Or.inl ⟨by rfl, fun W hW => by obtain ⟨hq1, hq2⟩ := hW; go_simp⟩) hHeld ?_
    try simp only [Act.put, List.getElem_toArray, List.getElem_cons_succ, List.getElem_cons_zero, List.setIfInBounds_toArray, List.set_cons_zero, List.set_cons_succ]
    refine wpAnyH_done (by kernel_rfl) ?_ _
    replace HB := HBX
    clear HBX hHeld
    have z : ∀ i, w16.cell? ⟨β, i, none⟩ = #[.string k, .string n, .string t, .slice xa V.length xc, .bool false, .slice ya Ho.length yc, .int .i64 ver][i]? := (KP.out _ HB.out).2
    have zl : β < w16.heap.size := (BO.out.on HB.out).lt
    go_wp2_with fail
    clear z zl
    refine (wgField_any lo _ _ _ Ss k w16 (HS.out.below HB.out) hLs).mono ?_
    rintro e w17 ⟨fv, rfl, hfd, hb⟩
    obtain ⟨ga, gc, rfl⟩ := hfd.form
    have HFD := hide hfd
    replace HB := hide (bt HB.out hb)
    clear hfd hb
    have hF6 := fieldsOf_len (s := k) (mendsB_shapes hmb)
    have HNM := hide (named_all (s := k) hmb)
    have HDC := hide (shaped_dec hmb HFT.out)
    generalize fieldsOf Ss k = Fs at *
    go_upto_region 12 with fail
    go_cut [86] (fun cc wc => cc = .bool false ∧ Below w4.heap.size w4 wc)
    case first =>
      have z : ∀ i, w17.cell? ⟨β, i, none⟩ = #[.string k, .string n, .string t, .slice xa V.length xc, .bool false, .slice ya Ho.length yc, .int .i64 ver][i]? := (KP.out _ HB.out).2
      have zl : β < w17.heap.size := (BO.out.on HB.out).lt
      have y : ∀ i, w17.cell? ⟨α, i, none⟩ = #[.string k, .string n, .string t, .slice pa F.length pc, .bool false, .slice ra Ho.length rc, .int .i64 ver][i]? := (KP.out _ HB.out).1
      have yl : α < w17.heap.size := (BA.out.on HB.out).lt
      by_cases hfl : Fs.length = V.length
      · have hfl' : (Fs.length : Int) = (V.length : Int) := by omega
        have HFQ := hide hfl
        clear hfl
        go_wp2_with fail
        refine (wgDecided_true lo lo k n t _ _ _ _ false ver Fs Lm F Ho w17 HFD.out (HM.out.below HB.out) (HF.out.below HB.out) (HFH.out.below HB.out) (by omega) (HFQ.out.trans HFL.out.symm) HNM.out (by omega) (HDC.out HFQ.out) (fun m hm => put_some hmb hm)).mono ?_
        rintro e w30 ⟨rfl, hb⟩
        go_wp2
        go_meet
        exact ⟨rfl, bt HB.out hb⟩
      · have hfl' : ¬ (Fs.length : Int) = (V.length : Int) := by omega
        go_wp2
        go_meet
        exact ⟨rfl, HB.out⟩
    case rest =>
    revert wc
    intro w31 hcut
    obtain ⟨rfl, hb⟩ := hcut
    replace HB := hide hb
    clear hb HFD HNM HDC hF6
    have z : ∀ i, w31.cell? ⟨β, i, none⟩ = #[.string k, .string n, .string t, .slice xa V.length xc, .bool false, .slice ya Ho.length yc, .int .i64 ver][i]? := (KP.out _ HB.out).2
    have zl : β < w31.heap.size := (BO.out.on HB.out).lt
    go_upto_region 15 with fail
    clear z zl
    generalize hW32 : w31.alloc _ = w32
    have hba : Below w31.heap.size w31 w32 := by rw [← hW32]; exact one_al _ _
    have BP : Hid (Box w32 w31.heap.size #[.string k, .string n, .string t, .slice xa V.length xc, .bool false, .slice ya Ho.length yc, .int .i64 ver]) := by unfold Hid; rw [← hW32]; exact Box.new _ _ _ _ rfl
    have hzπ := HB.out.size
    replace HB := hide (bt HB.out hba)
    clear hba hW32
    generalize w31.heap.size = π at *
    have z : ∀ i, w32.cell? ⟨β, i, none⟩ = #[.string k, .string n, .string t, .slice xa V.length xc, .bool false, .slice ya Ho.length yc, .int .i64 ver][i]? := (KP.out _ HB.out).2
    have zl : β < w32.heap.size := (BO.out.on HB.out).lt
    go_wp2_with fail
    clear z zl
    refine (wgTurned_any _ V w32 (HV.out.below HB.out) (by omega)).mono ?_
    rintro e w33 ⟨v33, rfl, hown, hb⟩
    obtain ⟨R, hRv⟩ : ∃ y, V.reverse = y := ⟨_, rfl⟩
    rw [hRv] at hown
    have hRl : R.length ≤ 11 := by rw [← hRv, List.length_reverse]; exact hVl
    have HRV := hide hRv
    clear hRv
    obtain ⟨ta, tc, rfl⟩ := hown.form
    have HOW := hide hown
    have hπz : π < w32.heap.size := BP.out.lt
    replace BP := hide (BP.out.on hb)
    replace HB := hide (bt HB.out hb)
    clear hown hb
    have z : ∀ i, w33.cell? ⟨π, i, none⟩ = #[.string k, .string n, .string t, .slice xa V.length xc, .bool false, .slice ya Ho.length yc, .int .i64 ver][i]? := BP.out.cell
    have zf := BP.out.free
    have zl := BP.out.lt
    go_upto_region 16 with fail
    clear z zf zl
    generalize hW34 : w33.setCell _ _ = w34
    have BP4 : Hid (Box w34 π #[.string k, .string n, .string t, .slice ta R.length tc, .bool false, .slice ya Ho.length yc, .int .i64 ver]) := by unfold Hid; rw [← hW34]; exact put_cell BP.out 3 (by simp) _
    have HB4 : Hid (Below w4.heap.size w4 w34) := by unfold Hid; rw [← hW34]; exact HB.out.setCell (by show w4.heap.size ≤ π; omega) _
    have HT4 : Hid (StrsAt w34 (.slice ta R.length tc) R) := by unfold Hid; rw [← hW34]; exact (ownS_set HOW.out hπz _).strs
    clear hW34 BP HOW HB
    obtain ⟨G, hGT⟩ := MendTo.exists Ss Lm k V
    have HGT := hide hGT
    have hGl0 := hGT.len
    obtain ⟨GR, hGr⟩ : ∃ y, G.reverse = y := ⟨_, rfl⟩
    have HGR : Hid (MendTo (roundS Ss) Lm k R GR) := by unfold Hid; rw [← hGr, ← HRV.out]; exact MendTo.rev hmb hGT
    have HGG : Hid (GR.reverse = G) := by unfold Hid; rw [← hGr, List.reverse_reverse]
    have hGr2 : GR.length ≤ 1000 := by rw [← hGr, List.length_reverse]; omega
    clear hGr
    have hGl : G.length ≤ 11 := by rw [hGT.len]; exact hVl
    clear hGT hGl0
    have KP2 : Hid (∀ W, Below w34.heap.size w34 W → ∀ i, W.cell? ⟨π, i, none⟩ = #[.string k, .string n, .string t, .slice ta R.length tc, .bool false, .slice ya Ho.length yc, .int .i64 ver][i]?) := fun W hW => (BP4.out.on hW).cell
    have HS4 := hide (ZRw.below sh_keeps HSG.out HB4.out)
    have HM4 := hide (HM.out.below HB4.out)
    have HH4 := hide (HH.out.below HB4.out)
    have hlo5 : lo ≤ w34.heap.size := by have := HB4.out.size; omega
    have hVr2 : R.length ≤ 1048576 := by omega
    go_cut [9] (fun pp wc => ∃ (κ qc ec : Nat) (qa ea : Option Addr), pp = .pointer (some ⟨κ, 0, none⟩) ∧ Box wc κ #[.string k, .string n, .string t, .slice qa GR.length qc, .bool false, .slice ea Ho.length ec, .int .i64 ver] ∧ StrsAt wc (.slice qa GR.length qc) GR ∧ Below w4.heap.size w4 wc)
    case first =>
      have HBZ : Hid (Below w34.heap.size w34 w34.drew) := (Below.refl _ _).drew
      refine wp_region_held_drew (S := fun W => ∀ i, W.cell? ⟨π, i, none⟩ = #[.string k, .string n, .string t, .slice ta R.length tc, .bool false, .slice ya Ho.length yc, .int .i64 ver][i]?) (by kernel_rfl) (KP2.out _ HBZ.out) (fun hHeld => ?_)
      refine wpAnyH_take (i := 0) (v := .slice sa Ls.length sc) rfl (by kernel_rfl) (by kernel_rfl) (by kernel_rfl) (fun _ _ _ h => h) (Or.inl ⟨by rfl, fun W hW => by have hq := hW; go_simp⟩) hHeld ?_
      try simp only [Act.put, List.getElem_toArray, List.getElem_cons_zero, List.setIfInBounds_toArray, List.set_cons_zero, List.set_cons_succ]
      refine wpAnyH_take (i := 2) (v := .slice ma Lm.length mc) rfl (by kernel_rfl) (by kernel_rfl) (by kernel_rfl) (fun _ _ _ h => h) (Or.inl ⟨by rfl, fun W hW => by have hq := hW; go_simp⟩) hHeld ?_
      try simp only [Act.put, List.getElem_toArray, List.getElem_cons_succ, List.getElem_cons_zero, List.setIfInBounds_toArray, List.set_cons_zero, List.set_cons_succ]
      refine wpAnyH_take (i := 3) (v := .agg #[.string k, .string n, .string t, .slice ta R.length tc, .bool false, .slice ya Ho.length yc, .int .i64 ver]) rfl (by kernel_rfl) (by kernel_rfl) (by kernel_rfl) (fun _ _ _ h => h) (Or.inl ⟨by rfl, fun W hW => by have hq := hW; go_simp⟩) hHeld ?_
      try simp only [Act.put, List.getElem_toArray, List.getElem_cons_succ, List.getElem_cons_zero, List.setIfInBounds_toArray, List.set_cons_zero, List.set_cons_succ]
      refine wpAnyH_ready (rs := [1, 5]) (by kernel_rfl) (by simp) ?_
      refine AllReadyH.cons rfl (fun KK hK => ?_) (AllReadyH.cons rfl (fun KK hK => ?_) AllReadyH.nil)
      ·
        go_simp
        refine (wgRound_any lo _ Ls _ (ZRw.below sh_keeps HS4.out HBZ.out) (by omega) (by have := HBZ.out.size; omega)).mono ?_
        rintro e w18 ⟨vr, Lr, rfl, hgr, hmap, hb⟩
        obtain ⟨ja, jc, rfl⟩ := ZRw.form hgr
        rw [HSS.out] at hmap
        have HMP := hide hmap
        clear hmap
        have HGX := hide hgr
        clear hgr
        replace HBZ := hide (bt HBZ.out hb)
        clear hb
        try go_wp2_with fail
        refine hK.out _ _ (KP2.out _ HBZ.out) (fun hHeld => ?_)
        clear hK KK
        try simp only [Act.put, List.getElem_toArray, List.getElem_cons_succ, List.getElem_cons_zero, List.setIfInBounds_toArray, List.set_cons_zero, List.set_cons_succ]
        have HBS := HBZ
        refine wpAnyH_ready (rs := [4, 5]) (by kernel_rfl) (by simp) ?_
        refine AllReadyH.cons rfl (fun KK hK => ?_) (AllReadyH.cons rfl (fun KK hK => ?_) AllReadyH.nil)
        ·
          have HSR := hide (shsG_at HGX.out)
          rw [HMP.out] at HSR
          go_simp
          refine (implMendedF_any k n t _ _ _ _ false ver R Ho (roundS Ss) Lm GR _ lo lo HSR.out (HM4.out.below HBZ.out) (HT4.out.below HBZ.out) (HH4.out.below HBZ.out) hVr2 (by omega) HGR.out).mono ?_
          rintro e w19 ⟨vQ, hQ, rfl, hb, mid, hm1, hm2, hx1, hx2⟩
          obtain ⟨aQ, cQ, rfl⟩ := hx1.form
          obtain ⟨bQ, dQ, rfl⟩ := hx2.form
          have HX1 := hide hx1
          clear hx1 hx2 HSR
          have HMI : Hid (mid ≤ w19.heap.size) := hm2
          replace HGX := hide (ZRw.below sh_keeps HGX.out hb)
          replace HBZ := hide (bt HBZ.out hb)
          clear hb
          try go_wp2_with fail
          refine hK.out _ _ (KP2.out _ HBZ.out) (fun hHeld => ?_)
          clear hK KK
          try simp only [Act.put, List.getElem_toArray, List.getElem_cons_succ, List.getElem_cons_zero, List.setIfInBounds_toArray, List.set_cons_zero, List.set_cons_succ]
          clear hm1 hm2
          replace HBS := HBZ
          refine wpAnyH_ready (rs := [5]) (by kernel_rfl) (by simp) ?_
          refine AllReadyH.cons rfl (fun KK hK => ?_) AllReadyH.nil
          go_simp
          refine hK.out _ _ (KP2.out _ (bt HBZ.out (one_al _ _))) (fun hHeld => ?_)
          clear hK KK
          try simp only [Act.put, List.getElem_toArray, List.getElem_cons_succ, List.getElem_cons_zero, List.setIfInBounds_toArray, List.set_cons_zero, List.set_cons_succ]
          generalize hV9 : World.alloc _ _ = w20
          have hb : Below w19.heap.size w19 w20 := by rw [← hV9]; exact one_al _ _
          have BN : Hid (Box w20 w19.heap.size #[.string ⟨#[]⟩, .string ⟨#[]⟩, .string ⟨#[]⟩, .slice none 0 0, .bool false, .slice none 0 0, .int .i64 0]) := by unfold Hid; rw [← hV9]; exact Box.new _ _ _ _ rfl
          replace HGX := hide (ZRw.below sh_keeps HGX.out hb)
          replace HX1 := hide (HX1.out.below hb)
          replace HBZ : Hid (Below w34.heap.size w34 w20) := bt HBZ.out hb
          have hzκ : w34.heap.size ≤ w19.heap.size := HBS.out.size
          clear hV9 hb
          generalize w19.heap.size = κ at *
          have HTH : Hid (w20.there κ 0 7) := box_there BN.out rfl
          refine wpAnyH_ready (rs := [6]) (by kernel_rfl) (by simp) ?_
          refine AllReadyH.cons rfl (fun KK hK => ?_) AllReadyH.nil
          rw [if_pos (by rfl)]
          refine wp_store_mid 27 (.tmp 9) (.tmp 96) rfl κ 0 #[.string k, .string n, .string t, .slice aQ GR.length cQ, .bool false, .slice bQ Ho.length dQ, .int .i64 ver] rfl rfl HTH.out Ob_sizeI (ob_one _ _ _ _ _ _ _ _ _ _ _ 0) ?_
          have HBE : Hid (Below w34.heap.size w34 (w20.setCells κ 0 (#[.string k, .string n, .string t, .slice aQ GR.length cQ, .bool false, .slice bQ Ho.length dQ, .int .i64 ver] : Array Value).toList)) := Below.sets (by omega) _ _ HBZ.out
          refine hK.out _ _ (KP2.out _ HBE.out) (fun hHeld => ?_)
          clear hK KK
          try simp only [Act.put, List.getElem_toArray, List.getElem_cons_succ, List.getElem_cons_zero]
          refine wpAnyH_done (by kernel_rfl) ?_ _
          try simp only [List.getElem_toArray, List.getElem_cons_succ, List.getElem_cons_zero]
          go_wp2
          go_meet
          exact ⟨κ, cQ, dQ, aQ, bQ, rfl, box_full BN.out rfl, (StrsOwn.sets (Or.inr HMI.out) _ _ HX1.out).at, bt HB4.out HBE.out⟩
        ·
          go_simp
          refine hK.out _ _ (KP2.out _ (bt HBZ.out (one_al _ _))) (fun hHeld => ?_)
          clear hK KK
          try simp only [Act.put, List.getElem_toArray, List.getElem_cons_succ, List.getElem_cons_zero, List.setIfInBounds_toArray, List.set_cons_zero, List.set_cons_succ]
          generalize hV9 : World.alloc _ _ = w21
          have hb : Below w18.heap.size w18 w21 := by rw [← hV9]; exact one_al _ _
          have BN : Hid (Box w21 w18.heap.size #[.string ⟨#[]⟩, .string ⟨#[]⟩, .string ⟨#[]⟩, .slice none 0 0, .bool false, .slice none 0 0, .int .i64 0]) := by unfold Hid; rw [← hV9]; exact Box.new _ _ _ _ rfl
          replace HGX := hide (ZRw.below sh_keeps HGX.out hb)
          replace HBZ : Hid (Below w34.heap.size w34 w21) := bt HBZ.out hb
          have hzκ : w34.heap.size ≤ w18.heap.size := HBS.out.size
          clear hV9 hb
          generalize w18.heap.size = κ at *
          refine wpAnyH_ready (rs := [4]) (by kernel_rfl) (by simp) ?_
          refine AllReadyH.cons rfl (fun KK hK => ?_) AllReadyH.nil
          have HSR := hide (shsG_at HGX.out)
          rw [HMP.out] at HSR
          have hκn := BN.out.lt
          go_simp
          refine (implMendedF_any k n t _ _ _ _ false ver R Ho (roundS Ss) Lm GR _ lo lo HSR.out (HM4.out.below HBZ.out) (HT4.out.below HBZ.out) (HH4.out.below HBZ.out) hVr2 (by omega) HGR.out).mono ?_
          rintro e w22 ⟨vQ, hQ, rfl, hb, mid, hm1, hm2, hx1, hx2⟩
          obtain ⟨aQ, cQ, rfl⟩ := hx1.form
          obtain ⟨bQ, dQ, rfl⟩ := hx2.form
          have HX1 := hide hx1
          clear hx1 hx2 HSR
          have HMI : Hid (κ < w21.heap.size) := hκn
          replace BN := hide (BN.out.on hb)
          replace HGX := hide (ZRw.below sh_keeps HGX.out hb)
          replace HBZ := hide (bt HBZ.out hb)
          clear hb
          try go_wp2_with fail
          refine hK.out _ _ (KP2.out _ HBZ.out) (fun hHeld => ?_)
          clear hK KK
          try simp only [Act.put, List.getElem_toArray, List.getElem_cons_succ, List.getElem_cons_zero, List.setIfInBounds_toArray, List.set_cons_zero, List.set_cons_succ]
          clear hm1 hm2
          have HTH : Hid (w22.there κ 0 7) := box_there BN.out rfl
          refine wpAnyH_ready (rs := [6]) (by kernel_rfl) (by simp) ?_
          refine AllReadyH.cons rfl (fun KK hK => ?_) AllReadyH.nil
          rw [if_pos (by rfl)]
          refine wp_store_mid 27 (.tmp 9) (.tmp 96) rfl κ 0 #[.string k, .string n, .string t, .slice aQ GR.length cQ, .bool false, .slice bQ Ho.length dQ, .int .i64 ver] rfl rfl HTH.out Ob_sizeI (ob_one _ _ _ _ _ _ _ _ _ _ _ 0) ?_
          have HBE : Hid (Below w34.heap.size w34 (w22.setCells κ 0 (#[.string k, .string n, .string t, .slice aQ GR.length cQ, .bool false, .slice bQ Ho.length dQ, .int .i64 ver] : Array Value).toList)) := Below.sets (by omega) _ _ HBZ.out
          refine hK.out _ _ (KP2.out _ HBE.out) (fun hHeld => ?_)
          clear hK KK
          try simp only [Act.put, List.getElem_toArray, List.getElem_cons_succ, List.getElem_cons_zero]
          refine wpAnyH_done (by kernel_rfl) ?_ _
          try simp only [List.getElem_toArray, List.getElem_cons_succ, List.getElem_cons_zero]
          go_wp2
          go_meet
          exact ⟨κ, cQ, dQ, aQ, bQ, rfl, box_full BN.out rfl, (StrsOwn.sets (Or.inl HMI.out) _ _ HX1.out).at, bt HB4.out HBE.out⟩
      ·
        go_simp
        refine hK.out _ _ (KP2.out _ (bt (Below.refl _ _) ((one_al _ _).drew))) (fun hHeld => ?_)
        clear hK KK
        try simp only [Act.put, List.getElem_toArray, List.getElem_cons_succ, List.getElem_cons_zero, List.setIfInBounds_toArray, List.set_cons_zero, List.set_cons_succ]
        generalize hV9 : World.drew _ = w23
        have hb : Below w34.heap.size w34 w23 := by rw [← hV9]; exact (one_al _ _).drew
        have BN : Hid (Box w23 w34.heap.size #[.string ⟨#[]⟩, .string ⟨#[]⟩, .string ⟨#[]⟩, .slice none 0 0, .bool false, .slice none 0 0, .int .i64 0]) := by unfold Hid; rw [← hV9]; exact (Box.new _ _ _ _ rfl).drew
        replace HBZ : Hid (Below w34.heap.size w34 w23) := hb
        have hzκ : w34.heap.size ≤ w34.heap.size := Nat.le_refl _
        clear hV9 hb
        obtain ⟨κ, hκ⟩ : ∃ y, w34.heap.size = y := ⟨_, rfl⟩
        rw [hκ] at BN
        rw [hκ]
        replace hzκ : w34.heap.size ≤ κ := by omega
        clear hκ
        refine wpAnyH_ready (rs := [1]) (by kernel_rfl) (by simp) ?_
        refine AllReadyH.cons rfl (fun KK hK => ?_) AllReadyH.nil
        go_simp
        refine (wgRound_any lo _ Ls _ (ZRw.below sh_keeps HS4.out HBZ.out) (by omega) (by have := HBZ.out.size; omega)).mono ?_
        rintro e w24 ⟨vr, Lr, rfl, hgr, hmap, hb⟩
        obtain ⟨ja, jc, rfl⟩ := ZRw.form hgr
        rw [HSS.out] at hmap
        have HMP := hide hmap
        clear hmap
        have HGX := hide hgr
        clear hgr
        replace BN := hide (BN.out.on hb)
        replace HBZ := hide (bt HBZ.out hb)
        clear hb
        try go_wp2_with fail
        refine hK.out _ _ (KP2.out _ HBZ.out) (fun hHeld => ?_)
        clear hK KK
        try simp only [Act.put, List.getElem_toArray, List.getElem_cons_succ, List.getElem_cons_zero, List.setIfInBounds_toArray, List.set_cons_zero, List.set_cons_succ]
        refine wpAnyH_ready (rs := [4]) (by kernel_rfl) (by simp) ?_
        refine AllReadyH.cons rfl (fun KK hK => ?_) AllReadyH.nil
        have HSR := hide (shsG_at HGX.out)
        rw [HMP.out] at HSR
        have hκn := BN.out.lt
        go_simp
        refine (implMendedF_any k n t _ _ _ _ false ver R Ho (roundS Ss) Lm GR _ lo lo HSR.out (HM4.out.below HBZ.out) (HT4.out.below HBZ.out) (HH4.out.below HBZ.out) hVr2 (by omega) HGR.out).mono ?_
        rintro e w25 ⟨vQ, hQ, rfl, hb, mid, hm1, hm2, hx1, hx2⟩
        obtain ⟨aQ, cQ, rfl⟩ := hx1.form
        obtain ⟨bQ, dQ, rfl⟩ := hx2.form
        have HX1 := hide hx1
        clear hx1 hx2 HSR
        have HMI : Hid (κ < w24.heap.size) := hκn
        replace BN := hide (BN.out.on hb)
        replace HGX := hide (ZRw.below sh_keeps HGX.out hb)
        replace HBZ := hide (bt HBZ.out hb)
        clear hb
        try go_wp2_with fail
        refine hK.out _ _ (KP2.out _ HBZ.out) (fun hHeld => ?_)
        clear hK KK
        try simp only [Act.put, List.getElem_toArray, List.getElem_cons_succ, List.getElem_cons_zero, List.setIfInBounds_toArray, List.set_cons_zero, List.set_cons_succ]
        clear hm1 hm2
        have HTH : Hid (w25.there κ 0 7) := box_there BN.out rfl
        refine wpAnyH_ready (rs := [6]) (by kernel_rfl) (by simp) ?_
        refine AllReadyH.cons rfl (fun KK hK => ?_) AllReadyH.nil
        rw [if_pos (by rfl)]
        refine wp_store_mid 27 (.tmp 9) (.tmp 96) rfl κ 0 #[.string k, .string n, .string t, .slice aQ GR.length cQ, .bool false, .slice bQ Ho.length dQ, .int .i64 ver] rfl rfl HTH.out Ob_sizeI (ob_one _ _ _ _ _ _ _ _ _ _ _ 0) ?_
        have HBE : Hid (Below w34.heap.size w34 (w25.setCells κ 0 (#[.string k, .string n, .string t, .slice aQ GR.length cQ, .bool false, .slice bQ Ho.length dQ, .int .i64 ver] : Array Value).toList)) := Below.sets (by omega) _ _ HBZ.out
        refine hK.out _ _ (KP2.out _ HBE.out) (fun hHeld => ?_)
        clear hK KK
        try simp only [Act.put, List.getElem_toArray, List.getElem_cons_succ, List.getElem_cons_zero]
        refine wpAnyH_done (by kernel_rfl) ?_ _
        try simp only [List.getElem_toArray, List.getElem_cons_succ, List.getElem_cons_zero]
        go_wp2
        go_meet
        exact ⟨κ, cQ, dQ, aQ, bQ, rfl, box_full BN.out rfl, (StrsOwn.sets (Or.inl HMI.out) _ _ HX1.out).at, bt HB4.out HBE.out⟩
    case rest =>
    revert wc
    intro w40 hcut
    obtain ⟨κ, qc, ec, qa, ea, rfl, hbx, hst, hb⟩ := hcut
    have BQ := hide hbx
    have HQV := hide hst
    have HB := hide hb
    clear hbx hst hb HT4 KP2 HS4 HM4 HH4 BP4 HB4
    have KP3 : Hid (∀ W, Below w40.heap.size w40 W → (∀ i, W.cell? ⟨κ, i, none⟩ = #[.string k, .string n, .string t, .slice qa GR.length qc, .bool false, .slice ea Ho.length ec, .int .i64 ver][i]?) ∧ (∀ i, W.cell? ⟨β, i, none⟩ = #[.string k, .string n, .string t, .slice xa V.length xc, .bool false, .slice ya Ho.length yc, .int .i64 ver][i]?)) := fun W hW => ⟨(BQ.out.on hW).cell, (KP.out _ (bt HB.out hW)).2⟩
    go_upto_region 17 with fail
    have HBY : Hid (Below w40.heap.size w40 w40.drew) := (Below.refl _ _).drew
    refine wp_region_held_drew (S := fun W => (∀ i, W.cell? ⟨κ, i, none⟩ = #[.string k, .string n, .string t, .slice qa GR.length qc, .bool false, .slice ea Ho.length ec, .int .i64 ver][i]?) ∧ (∀ i, W.cell? ⟨β, i, none⟩ = #[.string k, .string n, .string t, .slice xa V.length xc, .bool false, .slice ya Ho.length yc, .int .i64 ver][i]?)) (by kernel_rfl) (KP3.out _ HBY.out) (fun hHeld => ?_)
    refine wpAnyH_take (i := 0) (v := .pointer (some ⟨κ, 3, none⟩)) rfl (by kernel_rfl) (by kernel_rfl) (by kernel_rfl) (fun _ _ _ h => h) (Or.inl ⟨by rfl, fun W hW => by obtain ⟨hq1, hq2⟩ := hW; go_simp⟩) hHeld ?_
    try simp only [Act.put, List.getElem_toArray, List.getElem_cons_zero, List.setIfInBounds_toArray, List.set_cons_zero, List.set_cons_succ]
    refine wpAnyH_take (i := 1) (v := .slice qa GR.length qc) rfl (by kernel_rfl) (by kernel_rfl) (by kernel_rfl) (fun _ _ _ h => h) (Or.inl ⟨by rfl, fun W hW => by obtain ⟨hq1, hq2⟩ := hW; go_simp⟩) hHeld ?_
    try simp only [Act.put, List.getElem_toArray, List.getElem_cons_succ, List.getElem_cons_zero, List.setIfInBounds_toArray, List.set_cons_zero, List.set_cons_succ]
    refine wpAnyH_take (i := 3) (v := .slice sa Ls.length sc) rfl (by kernel_rfl) (by kernel_rfl) (by kernel_rfl) (fun _ _ _ h => h) (Or.inl ⟨by rfl, fun W hW => by obtain ⟨hq1, hq2⟩ := hW; go_simp⟩) hHeld ?_
    try simp only [Act.put, List.getElem_toArray, List.getElem_cons_succ, List.getElem_cons_zero, List.setIfInBounds_toArray, List.set_cons_zero, List.set_cons_succ]
    refine wpAnyH_take (i := 4) (v := .slice ma Lm.length mc) rfl (by kernel_rfl) (by kernel_rfl) (by kernel_rfl) (fun _ _ _ h => h) (Or.inl ⟨by rfl, fun W hW => by obtain ⟨hq1, hq2⟩ := hW; go_simp⟩) hHeld ?_
    try simp only [Act.put, List.getElem_toArray, List.getElem_cons_succ, List.getElem_cons_zero, List.setIfInBounds_toArray, List.set_cons_zero, List.set_cons_succ]
    refine wpAnyH_take (i := 5) (v := .agg #[.string k, .string n, .string t, .slice xa V.length xc, .bool false, .slice ya Ho.length yc, .int .i64 ver]) rfl (by kernel_rfl) (by kernel_rfl) (by kernel_rfl) (fun _ _ _ h => h) (Or.inl ⟨by rfl, fun W hW => by obtain ⟨hq1, hq2⟩ := hW; go_simp⟩) hHeld ?_
    try simp only [Act.put, List.getElem_toArray, List.getElem_cons_succ, List.getElem_cons_zero, List.setIfInBounds_toArray, List.set_cons_zero, List.set_cons_succ]
    refine wpAnyH_ready (rs := [2]) (by kernel_rfl) (by simp) ?_
    refine AllReadyH.cons rfl (fun KK hK => ?_) AllReadyH.nil
    go_simp
    refine (wgTurned_any _ GR _ (HQV.out.below HBY.out) hGr2).mono ?_
    rintro e w41 ⟨v41, rfl, hown, hb⟩
    rw [HGG.out] at hown
    obtain ⟨ua, uc, rfl⟩ := hown.form
    have HU := hide hown.strs
    replace HBY := hide (bt HBY.out hb)
    clear hown hb
    try go_wp2_with fail
    refine hK.out _ _ (KP3.out _ HBY.out) (fun hHeld => ?_)
    clear hK KK
    try simp only [Act.put, List.getElem_toArray, List.getElem_cons_succ, List.getElem_cons_zero, List.setIfInBounds_toArray, List.set_cons_zero, List.set_cons_succ]
    refine wpAnyH_ready (rs := [6]) (by kernel_rfl) (by simp) ?_
    refine AllReadyH.cons rfl (fun KK hK => ?_) AllReadyH.nil
    have HB5 := hide (bt HB.out HBY.out)
    go_simp
    refine (implMendedF_any k n t _ _ _ _ false ver V Ho Ss Lm G _ lo lo (HS.out.below HB5.out) (HM.out.below HB5.out) (HV.out.below HB5.out) (HH.out.below HB5.out) (by omega) (by omega) HGT.out).mono ?_
    rintro e w42 ⟨vQ, hQ, rfl, hb, mid, -, -, hx1, hx2⟩
    obtain ⟨aQ, cQ, rfl⟩ := hx1.form
    obtain ⟨bQ, dQ, rfl⟩ := hx2.form
    have HVQ := hide hx1.at
    replace HU := hide (HU.out.below hb)
    replace HBY := hide (bt HBY.out hb)
    clear hx1 hx2 hb
    try go_wp2_with fail
    refine hK.out _ _ (KP3.out _ HBY.out) (fun hHeld => ?_)
    clear hK KK
    try simp only [Act.put, List.getElem_toArray, List.getElem_cons_succ, List.getElem_cons_zero, List.setIfInBounds_toArray, List.set_cons_zero, List.set_cons_succ]
    refine wpAnyH_take (i := 7) (v := .slice aQ G.length cQ) rfl (by kernel_rfl) (by kernel_rfl) (by kernel_rfl) (fun _ _ _ h => h) (Or.inl ⟨by rfl, fun W hW => by have hfd := field_values; obtain ⟨hq1, hq2⟩ := hW; go_simp⟩) hHeld ?_
    try simp only [Act.put, List.getElem_toArray, List.getElem_cons_succ, List.getElem_cons_zero, List.setIfInBounds_toArray, List.set_cons_zero, List.set_cons_succ]
    refine wpAnyH_ready (rs := [8]) (by kernel_rfl) (by simp) ?_
    refine AllReadyH.cons rfl (fun KK hK => ?_) AllReadyH.nil
    go_simp
    refine (wgTexts_same _ _ G _ HU.out HVQ.out).mono ?_
    rintro e w43 ⟨rfl, hb⟩
    replace HBY := hide (bt HBY.out hb)
    clear hb
    try go_wp2_with fail
    refine hK.out _ _ (KP3.out _ HBY.out) (fun hHeld => ?_)
    clear hK KK
    try simp only [Act.put, List.getElem_toArray, List.getElem_cons_succ, List.getElem_cons_zero, List.setIfInBounds_toArray, List.set_cons_zero, List.set_cons_succ]
    refine wpAnyH_ready (rs := [9]) (by kernel_rfl) (by simp) ?_
    refine AllReadyH.cons rfl (fun KK hK => ?_) AllReadyH.nil
    go_simp
    refine hK.out _ _ (KP3.out _ HBY.out) (fun hHeld => ?_)
    clear hK KK hHeld
    try simp only [Act.put, List.getElem_toArray, List.getElem_cons_succ, List.getElem_cons_zero, List.setIfInBounds_toArray, List.set_cons_zero, List.set_cons_succ]
    refine wpAnyH_done (by kernel_rfl) ?_ _
    go_wp2
    go_ret
    exact ⟨rfl, bt HW.out (bt HB.out HBY.out)⟩
end Go.Proofs.YtjkkbkdpoebfaaaGreat
