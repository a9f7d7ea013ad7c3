import Derived.Test.YtaogpeebencnoaaGreatDoorA29
import Derived.Test.YtaogpeebencnoaaGreatDoorA44
namespace Go.Proofs.YtaogpeebencnoaaGreatDoor
open Go.RowKit Go.Deep

/-- are the service and all that are to end there? -/
def thereB (B : Sb) (A : Ac) : Bool := (svF B.ss A.sv).isSome && exB B A
theorem svIs_some {S : List Sv} {s : ByteArray} {c : Int} {t : Bool} (h : SvIs S s c t) : t = (svF S s).isSome := by
  rcases h with ⟨rfl, h⟩ | ⟨rfl, k, hk, -, h, -, -⟩ <;> rw [h] <;> rfl
theorem cpIs_some {L : List Cp} {s : ByteArray} {n : Int} {p : Nat} {t : Bool} (h : CpIs L s n p t) : t = (cpF L s n).isSome := by
  rcases h with ⟨rfl, h⟩ | ⟨rfl, hk, h, -, -, -⟩ <;> rw [h] <;> rfl

set_option maxRecDepth 100000 in
set_option maxHeartbeats 8000000 in
theorem actThere_any (lo m : Nat) (sv cv bv ev : Value) (B : Sb) (A : Ac) (w : World) (h : SbAt lo w sv cv bv B) (hx : IxAt w m B) (ha : AcAt lo w ev A) (hs : A.sv.size ≤ maxLen) (hu : risR rSv B.ss = true) (hr : risR aheadB B.cs = true) (hl : B.cs.length ≤ 200) (he : A.es.length ≤ 200) :
    Calls Tryz.prog 79 #[.agg #[.int .i64 B.now, sv, cv, bv, .map (some m)], .agg #[.string A.sv, .int .i64 A.sn, .int .i64 A.cr, .int .i64 A.wa, .int .i64 A.cl, .bool A.sc, ev, .bool A.dp]] w
      fun e w' => e = .returned (fltV (thereB B A) 3) ∧ Below w.heap.size w w' := by
  have HK := hide h
  have HX := hide hx
  have HA := hide ha
  have HS := hide hs
  have HU := hide hu
  have HR := hide hr
  obtain ⟨a0, k0, rfl⟩ := h.svs.form
  obtain ⟨a1, k1, rfl⟩ := h.cps.form
  obtain ⟨a2, k2, rfl⟩ := h.bes.form
  obtain ⟨ea, ec, rfl⟩ := ha.ens.form
  clear h hx ha hs hu hr
  go_enter Tryz.func79, Tryz.ntmps79
  go_wp2_with fail
  generalize hWa : World.alloc (w.alloc _) _ = Wa
  have HB : Hid (Below w.heap.size w Wa) := by rw [← hWa]; exact (one_al w _).alloc (by simp) _
  have FP : Hid (Box Wa w.heap.size #[.int .i64 B.now, .slice a0 B.ss.length k0, .slice a1 B.cs.length k1, .slice a2 B.bs.length k2, .map (some m)]) := by rw [← hWa]; exact (Box.new _ _ _ _ rfl).on (one_al _ _)
  have FQ : Hid (Box Wa (w.heap.size + 1) #[.string A.sv, .int .i64 A.sn, .int .i64 A.cr, .int .i64 A.wa, .int .i64 A.cl, .bool A.sc, .slice ea A.es.length ec, .bool A.dp]) := by
    unfold Hid
    rw [← hWa]
    exact Box.new _ _ _ _ (by simp)
  clear hWa
  refine (svcPlace_any lo m _ _ _ B A.sv _ (HK.out.below HB.out) (HX.out.below HB.out) HS.out HU.out).mono ?_
  rintro e w1 ⟨c, t, rfl, hb1, hf⟩
  have HT : Hid (t = (svF B.ss A.sv).isSome) := svIs_some hf.out
  replace HB := hide (bt HB.out hb1)
  replace FP := hide (FP.out.on hb1)
  replace FQ := hide (FQ.out.on hb1)
  clear hb1 hf
  have q6 := FQ.out.cell 6
  simp at q6
  go_wp2
  clear q6
  go_loopw [6, 21] (fun b i wr => ∃ j : Nat, i = .int .i64 j ∧ j ≤ A.es.length ∧ Below w.heap.size w wr ∧ Box wr w.heap.size #[.int .i64 B.now, .slice a0 B.ss.length k0, .slice a1 B.cs.length k1, .slice a2 B.bs.length k2, .map (some m)] ∧ Box wr (w.heap.size + 1) #[.string A.sv, .int .i64 A.sn, .int .i64 A.cr, .int .i64 A.wa, .int .i64 A.cl, .bool A.sc, .slice ea A.es.length ec, .bool A.dp] ∧ b = .bool (t && (A.es.take j).all fun e => (cpF B.cs A.sv e.nu).isSome)) (fun _ i _ => A.es.length - (intOf i).toNat)
  case atStart => exact ⟨0, rfl, by omega, HB.out, FP.out, FQ.out, by simp⟩
  case round =>
    obtain ⟨j, rfl, hj, hb, hp, hq, rfl⟩ := hrel
    replace HB := hide hb
    replace FP := hide hp
    replace FQ := hide hq
    clear hb hp hq
    obtain ⟨bj, hbj⟩ : ∃ b, b = (t && (A.es.take j).all fun e => (cpF B.cs A.sv e.nu).isSome) := ⟨_, rfl⟩
    rw [← hbj]
    have HBJ := hide hbj
    clear hbj
    by_cases hlt : j < A.es.length
    · obtain ⟨eb, eo, rfl, hew, -, hec⟩ := HA.out.ens.full' (by omega)
      have hcc := (hec j hlt).2.below HB.out hew
      have e0 := hcc.c0
      have e1 := hcc.c1
      have HTK : Hid (A.es.take (j + 1) = A.es.take j ++ [A.es[j]]) := List.take_succ_eq_append_getElem hlt
      clear hec hcc
      have p := fun o => (FP.out.on (one_al wr o)).cell
      have q := fun o => (FQ.out.on (one_al wr o)).cell
      go_wp2_with fail
      clear p q e0 e1
      generalize hWb : wr.alloc _ = Wb
      have HBb : Hid (Below w.heap.size w Wb) := by rw [← hWb]; exact bt HB.out (one_al _ _)
      have FPb : Hid (Box Wb w.heap.size #[.int .i64 B.now, .slice a0 B.ss.length k0, .slice a1 B.cs.length k1, .slice a2 B.bs.length k2, .map (some m)]) := by rw [← hWb]; exact FP.out.on (one_al _ _)
      have FQb : Hid (Box Wb (w.heap.size + 1) #[.string A.sv, .int .i64 A.sn, .int .i64 A.cr, .int .i64 A.wa, .int .i64 A.cl, .bool A.sc, .slice (some ⟨eb, eo, none⟩) A.es.length ec, .bool A.dp]) := by rw [← hWb]; exact FQ.out.on (one_al _ _)
      clear hWb HB FP FQ
      refine (copyPlace_any lo B.now _ _ _ B.cs A.sv A.es[j].nu _ (HK.out.below HBb.out).cps (by omega) HR.out ⟨_, _, _, rfl⟩ ⟨_, _, _, rfl⟩).mono ?_
      rintro e w3 ⟨⟨p, hsp, rfl⟩, hb3⟩
      have HCI := hide (cpIs_some (cp_is HR.out hsp))
      have HB3 := hide (bt HBb.out hb3)
      have FP3 := hide (FPb.out.on hb3)
      have FQ3 := hide (FQb.out.on hb3)
      clear hb3 hsp HBb FPb FQb
      have HN : Hid ((t && (A.es.take (j + 1)).all fun e => (cpF B.cs A.sv e.nu).isSome) = (bj && isAt cCp B.cs (tgtN A.sv A.es[j].nu) p)) := by
        unfold Hid
        rw [HTK.out, List.all_append, HBJ.out, HCI.out]
        simp [Bool.and_assoc]
      generalize isAt cCp B.cs (tgtN A.sv A.es[j].nu) p = tj at *
      cases bj with
      | true =>
        go_wp2
        go_roundw
        case rel => exact ⟨j + 1, by go_num, by omega, HB3.out, FP3.out, FQ3.out, by rw [HN.out]; rfl⟩
        case measure => simp [intOf]; omega
      | false =>
        go_wp2
        go_roundw
        case rel => exact ⟨j + 1, by go_num, by omega, HB3.out, FP3.out, FQ3.out, by rw [HN.out]; rfl⟩
        case measure => simp [intOf]; omega
    · have HE : Hid (thereB B A = bj) := by
        unfold Hid thereB exB
        rw [HBJ.out, HT.out, List.take_of_length_le (by omega)]
      go_wp2_with (go_at_call 103; refine (faultUnless_any _ _ _).mono ?_; rintro e w' ⟨rfl, rfl⟩)
      go_ret
      exact ⟨by rw [HE.out]; rfl, HB.out⟩
end Go.Proofs.YtaogpeebencnoaaGreatDoor
namespace Go.Proofs.YtaogpeebencnoaaGreatDoor
open Go.RowKit Go.Deep

theorem veE_at {B : Sb} {A : Ac} {e : En} {p : Nat} (hp : p < B.cs.length) (h : cpF B.cs A.sv e.nu = some B.cs[p]) : veE B A e = (B.cs[p].ve == e.sn) := by
  unfold veE
  rw [h]

set_option maxRecDepth 100000 in
set_option maxHeartbeats 8000000 in
theorem actNow_any (lo m : Nat) (sv cv bv ev : Value) (B : Sb) (A : Ac) (w : World) (h : SbAt lo w sv cv bv B) (hx : IxAt w m B) (ha : AcAt lo w ev A) (hs : A.sv.size ≤ maxLen) (hu : risR rSv B.ss = true) (hr : risR aheadB B.cs = true) (hl : B.cs.length ≤ 200) (he : A.es.length ≤ 200) (x : Sv) (hsx : svF B.ss A.sv = some x) (hex : exB B A = true) :
    Calls Tryz.prog 80 #[.agg #[.int .i64 B.now, sv, cv, bv, .map (some m)], .agg #[.string A.sv, .int .i64 A.sn, .int .i64 A.cr, .int .i64 A.wa, .int .i64 A.cl, .bool A.sc, ev, .bool A.dp]] w
      fun e w' => e = .returned (fltV ((x.ve == A.sn) && veB B A) 4) ∧ Below w.heap.size w w' := by
  have HK := hide h
  have HX := hide hx
  have HA := hide ha
  have HS := hide hs
  have HU := hide hu
  have HR := hide hr
  have HSX := hide hsx
  have HEX := hide hex
  obtain ⟨a0, k0, rfl⟩ := h.svs.form
  obtain ⟨a1, k1, rfl⟩ := h.cps.form
  obtain ⟨a2, k2, rfl⟩ := h.bes.form
  obtain ⟨ea, ec, rfl⟩ := ha.ens.form
  clear h hx ha hs hu hr hsx hex
  go_enter Tryz.func80, Tryz.ntmps80
  go_wp2_with fail
  generalize hWa : World.alloc (w.alloc _) _ = Wa
  have HB : Hid (Below w.heap.size w Wa) := by rw [← hWa]; exact (one_al w _).alloc (by simp) _
  have FP : Hid (Box Wa w.heap.size #[.int .i64 B.now, .slice a0 B.ss.length k0, .slice a1 B.cs.length k1, .slice a2 B.bs.length k2, .map (some m)]) := by rw [← hWa]; exact (Box.new _ _ _ _ rfl).on (one_al _ _)
  have FQ : Hid (Box Wa (w.heap.size + 1) #[.string A.sv, .int .i64 A.sn, .int .i64 A.cr, .int .i64 A.wa, .int .i64 A.cl, .bool A.sc, .slice ea A.es.length ec, .bool A.dp]) := by
    unfold Hid
    rw [← hWa]
    exact Box.new _ _ _ _ (by simp)
  clear hWa
  refine (svcOf_any lo m _ _ _ B A.sv _ (HK.out.below HB.out) (HX.out.below HB.out) HS.out HU.out).mono ?_
  rintro e w1 ⟨x1, t, rfl, hb1, hf⟩
  obtain ⟨rfl, hxx⟩ : t = true ∧ x1 = x := by
    have := hf.out.symm.trans HSX.out
    cases t with
    | false => cases this
    | true => exact ⟨rfl, Option.some.inj this⟩
  subst hxx
  replace HB := hide (bt HB.out hb1)
  replace FP := hide (FP.out.on hb1)
  replace FQ := hide (FQ.out.on hb1)
  clear hb1 hf
  have q1 := fun o => (FQ.out.on (one_al w1 o)).cell 1
  have q6 := fun o => (FQ.out.on (one_al w1 o)).cell 6
  simp at q1 q6
  go_wp2
  clear q1 q6
  generalize hWx : w1.alloc _ = w2
  have hbx : Below w1.heap.size w1 w2 := by rw [← hWx]; exact one_al _ _
  replace HB := hide (bt HB.out hbx)
  replace FP := hide (FP.out.on hbx)
  replace FQ := hide (FQ.out.on hbx)
  clear hWx hbx
  go_loopw [7, 27] (fun b i wr => ∃ j : Nat, i = .int .i64 j ∧ j ≤ A.es.length ∧ Below w.heap.size w wr ∧ Box wr w.heap.size #[.int .i64 B.now, .slice a0 B.ss.length k0, .slice a1 B.cs.length k1, .slice a2 B.bs.length k2, .map (some m)] ∧ Box wr (w.heap.size + 1) #[.string A.sv, .int .i64 A.sn, .int .i64 A.cr, .int .i64 A.wa, .int .i64 A.cl, .bool A.sc, .slice ea A.es.length ec, .bool A.dp] ∧ b = .bool ((x1.ve == A.sn) && (A.es.take j).all (veE B A))) (fun _ i _ => A.es.length - (intOf i).toNat)
  case atStart => exact ⟨0, rfl, by omega, HB.out, FP.out, FQ.out, by simp⟩
  case round =>
    obtain ⟨j, rfl, hj, hb, hp, hq, rfl⟩ := hrel
    replace HB := hide hb
    replace FP := hide hp
    replace FQ := hide hq
    clear hb hp hq
    obtain ⟨bj, hbj⟩ : ∃ b, b = ((x1.ve == A.sn) && (A.es.take j).all (veE B A)) := ⟨_, rfl⟩
    rw [← hbj]
    have HBJ := hide hbj
    clear hbj
    by_cases hlt : j < A.es.length
    · obtain ⟨eb, eo, rfl, hew, -, hec⟩ := HA.out.ens.full' (by omega)
      have hcc := (hec j hlt).2.below HB.out hew
      have e0 := hcc.c0
      have e1 := hcc.c1
      have HTK : Hid (A.es.take (j + 1) = A.es.take j ++ [A.es[j]]) := List.take_succ_eq_append_getElem hlt
      clear hec hcc
      have p := fun o => (FP.out.on (one_al wr o)).cell
      have q := fun o => (FQ.out.on (one_al wr o)).cell
      go_wp2_with fail
      clear p q e0 e1
      generalize hWb : wr.alloc _ = Wb
      have HBb : Hid (Below w.heap.size w Wb) := by rw [← hWb]; exact bt HB.out (one_al _ _)
      have FPb : Hid (Box Wb w.heap.size #[.int .i64 B.now, .slice a0 B.ss.length k0, .slice a1 B.cs.length k1, .slice a2 B.bs.length k2, .map (some m)]) := by rw [← hWb]; exact FP.out.on (one_al _ _)
      have FQb : Hid (Box Wb (w.heap.size + 1) #[.string A.sv, .int .i64 A.sn, .int .i64 A.cr, .int .i64 A.wa, .int .i64 A.cl, .bool A.sc, .slice (some ⟨eb, eo, none⟩) A.es.length ec, .bool A.dp]) := by rw [← hWb]; exact FQ.out.on (one_al _ _)
      have FEb : Hid (Box Wb wr.heap.size #[.int .i64 A.es[j].nu, .int .i64 A.es[j].sn]) := by
        unfold Hid
        rw [← hWb]
        exact Box.new _ _ _ _ rfl
      clear hWb HB FP FQ
      refine (copyPlace_any lo B.now _ _ _ B.cs A.sv A.es[j].nu _ (HK.out.below HBb.out).cps (by omega) HR.out ⟨_, _, _, rfl⟩ ⟨_, _, _, rfl⟩).mono ?_
      rintro e w3 ⟨⟨p, hsp, rfl⟩, hb3⟩
      have hsome : (cpF B.cs A.sv A.es[j].nu).isSome = true := by
        have h1 := HEX.out
        unfold exB at h1
        exact List.all_eq_true.1 h1 _ (List.getElem_mem hlt)
      obtain ⟨hp, hcf⟩ : ∃ hp : p < B.cs.length, cpF B.cs A.sv A.es[j].nu = some B.cs[p] := by
        rcases cp_is HR.out hsp with ⟨-, hn⟩ | ⟨-, hp, hc, -⟩
        · rw [hn] at hsome; cases hsome
        · exact ⟨hp, hc⟩
      have HVE := hide (veE_at (A := A) hp hcf)
      have HB3 := hide (bt HBb.out hb3)
      have FP3 := hide (FPb.out.on hb3)
      have FQ3 := hide (FQb.out.on hb3)
      have FE3 := hide (FEb.out.on hb3)
      obtain ⟨cb, co, rfl, hcb, -, hcc⟩ := HK.out.cps.full' (by omega)
      have d2 := ((hcc p hp).2.below HB3.out hcb).c2
      clear hb3 hsp HBb FPb FQb FEb hcc hsome hcf
      have i0 : (0 : Int) ≤ (p : Int) := by omega
      have i1 : (p : Int) < (B.cs.length : Int) := by omega
      have HN : Hid (((x1.ve == A.sn) && (A.es.take (j + 1)).all (veE B A)) = (bj && (B.cs[p].ve == A.es[j].sn))) := by
        unfold Hid
        rw [HTK.out, List.all_append, HBJ.out, ← HVE.out]
        simp [Bool.and_assoc]
      have p2 := FP3.out.cell 2
      have s1 := FE3.out.cell 1
      simp at p2 s1
      cases bj with
      | true =>
        go_wp2_with fail
        go_quiet (fail)
        replace HB3 := hide (below_drewN HB3.out nq)
        replace FP3 := hide (FP3.out.below (below_drewN (Below.refl _ _) nq) FP3.out.lt)
        replace FQ3 := hide (FQ3.out.below (below_drewN (Below.refl _ _) nq) FQ3.out.lt)
        clear p2 s1 d2
        generalize w3.drewN nq = W4 at *
        go_wp2
        go_roundw
        case rel => exact ⟨j + 1, by go_num, by omega, HB3.out, FP3.out, FQ3.out, by rw [HN.out]; rfl⟩
        case measure => simp [intOf]; omega
      | false =>
        go_wp2_with fail
        go_quiet (fail)
        replace HB3 := hide (below_drewN HB3.out nq)
        replace FP3 := hide (FP3.out.below (below_drewN (Below.refl _ _) nq) FP3.out.lt)
        replace FQ3 := hide (FQ3.out.below (below_drewN (Below.refl _ _) nq) FQ3.out.lt)
        clear p2 s1 d2
        generalize w3.drewN nq = W4 at *
        go_wp2
        go_roundw
        case rel => exact ⟨j + 1, by go_num, by omega, HB3.out, FP3.out, FQ3.out, by rw [HN.out]; rfl⟩
        case measure => simp [intOf]; omega
    · have HE : Hid (((x1.ve == A.sn) && veB B A) = bj) := by
        unfold Hid veB
        rw [HBJ.out, List.take_of_length_le (by omega)]
      go_wp2_with (go_at_call 103; refine (faultUnless_any _ _ _).mono ?_; rintro e w' ⟨rfl, rfl⟩)
      go_ret
      exact ⟨by rw [HE.out]; rfl, HB.out⟩
end Go.Proofs.YtaogpeebencnoaaGreatDoor
namespace Go.Proofs.YtaogpeebencnoaaGreatDoor
open Go.RowKit Go.Deep

set_option maxRecDepth 20000 in
set_option maxHeartbeats 4000000 in
theorem copyBook_any (lo : Nat) (sv cv bv : Value) (B : Sb) (w : World) (h : SbAt lo w sv cv bv B) (hn : SbSmall B) :
    Calls Tryz.prog 29 #[.agg #[.int .i64 B.now, sv, cv, bv]] w fun e w' => ∃ b0 m0 b1 m1 b2 m2, e = .returned (.agg #[.int .i64 B.now, .slice b0 B.ss.length m0, .slice b1 B.cs.length m1, .slice b2 B.bs.length m2]) ∧ Below w.heap.size w w' ∧ SbOwn w.heap.size w'.heap.size w' (.slice b0 B.ss.length m0) (.slice b1 B.cs.length m1) (.slice b2 B.bs.length m2) B := by
  have HK := hide h
  have HN := hide hn
  obtain ⟨a0, k0, rfl⟩ := h.svs.form
  obtain ⟨a1, k1, rfl⟩ := h.cps.form
  obtain ⟨a2, k2, rfl⟩ := h.bes.form
  clear h hn
  go_enter Tryz.func29, Tryz.ntmps29
  go_wp2_with fail
  generalize hWa : World.alloc (w.alloc _) _ = Wa
  have HB : Hid (Below w.heap.size w Wa) := by rw [← hWa]; exact (one_al w _).alloc (by simp) _
  have FP : Hid (Box Wa w.heap.size #[.int .i64 B.now, .slice a0 B.ss.length k0, .slice a1 B.cs.length k1, .slice a2 B.bs.length k2]) := by rw [← hWa]; exact (Box.new _ _ _ _ rfl).on (one_al _ _)
  have FR : Hid (Box Wa (w.heap.size + 1) #[.int .i64 0, .slice none 0 0, .slice none 0 0, .slice none 0 0]) := by
    unfold Hid
    rw [← hWa]
    exact Box.new _ _ _ _ (by simp)
  clear hWa
  have hz := FR.out.lt
  refine (cloneSvs_any lo _ B.ss _ (HK.out.below HB.out).svs HN.out.1.1).mono ?_
  rintro e w1 ⟨v1, rfl, hb1, ho1⟩
  obtain ⟨b0, m0, rfl⟩ := ho1.form
  replace HB := hide (bt HB.out hb1)
  replace FP := hide (FP.out.on hb1)
  replace FR := hide (FR.out.on hb1)
  have h1 := hb1.size
  have O1 := hide ho1
  clear hb1 ho1
  have p := FP.out.cell
  have pf := FP.out.free
  have p2 : ∀ u, (w1.setCell ⟨w.heap.size, 1, none⟩ u).cell? ⟨w.heap.size, 2, none⟩ = some (.slice a1 B.cs.length k1) := fun u => by rw [cell_set_ne0 _ _ _ _ _ (by omega), p]; rfl
  go_wp2_with fail
  clear p pf p2
  replace FP := hide (FP.out.set (k := 1) (.slice b0 B.ss.length m0) (by simp))
  replace FR := hide (FR.out.setFar (p := ⟨w.heap.size, 1, none⟩) (by simp only []; omega) (.slice b0 B.ss.length m0))
  replace HB := hide (HB.out.setCell (p := ⟨w.heap.size, 1, none⟩) (Nat.le_refl _) (.slice b0 B.ss.length m0))
  replace O1 := hide (O1.out.setLow (p := ⟨w.heap.size, 1, none⟩) (by simp only []; omega) (.slice b0 B.ss.length m0))
  have h1' : w1.heap.size = (w1.setCell ⟨w.heap.size, 1, none⟩ (.slice b0 B.ss.length m0)).heap.size := by simp [World.setCell]
  generalize hW1 : w1.setCell _ _ = W1 at *
  clear hW1
  refine (cloneCps_any lo _ B.cs _ (HK.out.below HB.out).cps HN.out.2.1.1).mono ?_
  rintro e w2 ⟨v2, rfl, hb2, ho2⟩
  obtain ⟨b1, m1, rfl⟩ := ho2.form
  replace HB := hide (bt HB.out hb2)
  replace FP := hide (FP.out.on hb2)
  replace FR := hide (FR.out.on hb2)
  replace O1 := hide (O1.out.below hb2)
  have h2 := hb2.size
  have O2 := hide ho2
  clear hb2 ho2
  have p := FP.out.cell
  have pf := FP.out.free
  simp at p
  have p3 : ∀ u, (w2.setCell ⟨w.heap.size, 2, none⟩ u).cell? ⟨w.heap.size, 3, none⟩ = some (.slice a2 B.bs.length k2) := fun u => by rw [cell_set_ne0 _ _ _ _ _ (by omega), FP.out.cell 3]; rfl
  go_wp2_with fail
  clear p pf p3
  replace FP := hide (FP.out.set (k := 2) (.slice b1 B.cs.length m1) (by simp))
  replace FR := hide (FR.out.setFar (p := ⟨w.heap.size, 2, none⟩) (by simp only []; omega) (.slice b1 B.cs.length m1))
  replace HB := hide (HB.out.setCell (p := ⟨w.heap.size, 2, none⟩) (Nat.le_refl _) (.slice b1 B.cs.length m1))
  replace O1 := hide (O1.out.setLow (p := ⟨w.heap.size, 2, none⟩) (by simp only []; omega) (.slice b1 B.cs.length m1))
  replace O2 := hide (O2.out.setLow (p := ⟨w.heap.size, 2, none⟩) (by simp only []; omega) (.slice b1 B.cs.length m1))
  have h2' : w2.heap.size = (w2.setCell ⟨w.heap.size, 2, none⟩ (.slice b1 B.cs.length m1)).heap.size := by simp [World.setCell]
  generalize hW2 : w2.setCell _ _ = W2 at *
  clear hW2
  refine (cloneBes_any lo _ B.bs _ (HK.out.below HB.out).bes HN.out.2.2.1).mono ?_
  rintro e w3 ⟨v3, rfl, hb3, ho3⟩
  obtain ⟨b2, m2, rfl⟩ := ho3.form
  replace HB := hide (bt HB.out hb3)
  replace FP := hide (FP.out.on hb3)
  replace FR := hide (FR.out.on hb3)
  replace O1 := hide (O1.out.below hb3)
  replace O2 := hide (O2.out.below hb3)
  have h3 := hb3.size
  have O3 := hide ho3
  clear hb3 ho3
  have p := FP.out.cell 3
  have pf := FP.out.free
  simp at p
  have FP2 := hide (FP.out.set (k := 3) (.slice b2 B.bs.length m2) (by simp))
  have c := FP2.out.cell
  have FR2 := hide (FR.out.setFar (p := ⟨w.heap.size, 3, none⟩) (by simp only []; omega) (.slice b2 B.bs.length m2))
  have r0 := FR2.out.cell
  have g0 := FR2.out.free
  simp at c
  go_wp2
  refine bodyPost_ret (v := .agg #[.int .i64 B.now, .slice b0 B.ss.length m0, .slice b1 B.cs.length m1, .slice b2 B.bs.length m2]) (by simp [results, Tryz.results29, go_sem, r0]) rfl ⟨_, _, _, _, _, _, rfl, ?_, ?_⟩
  · exact below_sets4 (HB.out.setCell (p := ⟨w.heap.size, 3, none⟩) (Nat.le_refl _) _) (by omega) _ _ _ _
  · refine ⟨Wa.heap.size, w1.heap.size, W1.heap.size, w2.heap.size, W2.heap.size, w3.heap.size, ⟨by simp [World.setCell]; omega, by simp [World.setCell]; omega, by simp [World.setCell]; omega, by omega, by omega, by omega⟩, ?_, ?_, ?_⟩
    · exact ((((O1.out.setLow (by simp only []; omega) _).setLow (by simp only []; omega) _).setLow (by simp only []; omega) _).setLow (by simp only []; omega) _).setLow (by simp only []; omega) _
    · exact ((((O2.out.setLow (by simp only []; omega) _).setLow (by simp only []; omega) _).setLow (by simp only []; omega) _).setLow (by simp only []; omega) _).setLow (by simp only []; omega) _
    · exact ((((O3.out.setLow (by simp only []; omega) _).setLow (by simp only []; omega) _).setLow (by simp only []; omega) _).setLow (by simp only []; omega) _).setLow (by simp only []; omega) _
end Go.Proofs.YtaogpeebencnoaaGreatDoor
namespace Go.Proofs.YtaogpeebencnoaaGreatDoor
open Go.RowKit Go.Deep

/-- the form of a list of copies of one's own: the whole block -/
def CpSh (w : World) (c0 c1 : Nat) (v : Value) (n : Nat) : Prop :=
  (v = .slice none 0 0 ∧ n = 0) ∨ ∃ g cap cur, v = .slice (some ⟨g, 0, none⟩) n cap ∧ c0 ≤ g ∧ g < c1 ∧ w.heap[g]? = some (.cells cur 92 (0, 0)) ∧ n ≤ cap ∧ cap ≤ maxLen ∧ cur.size = cap * 7
theorem CpSh.below {w w' : World} {c0 c1 n : Nat} {v : Value} (h : CpSh w c0 c1 v n) (hb : Below w.heap.size w w') : CpSh w' c0 c1 v n := by
  rcases h with h | ⟨g, cap, cur, h1, h2, h3, h4, h5⟩
  · exact Or.inl h
  · exact Or.inr ⟨g, cap, cur, h1, h2, h3, (hb.block g (Array.getElem?_eq_some_iff.1 h4).1).trans h4, h5⟩
theorem CpSh.touch {w w' : World} {c0 c1 n lo hi : Nat} {v : Value} (h : CpSh w c0 c1 v n) (ht : Touch lo hi w w') (ho : c1 ≤ lo ∨ hi ≤ c0) : CpSh w' c0 c1 v n := by
  rcases h with h | ⟨g, cap, cur, h1, h2, h3, h4, h5⟩
  · exact Or.inl h
  · exact Or.inr ⟨g, cap, cur, h1, h2, h3, (ht.block g (Array.getElem?_eq_some_iff.1 h4).1 (by omega)).trans h4, h5⟩
theorem CpSh.set {w : World} {c0 c1 n : Nat} {v : Value} (h : CpSh w c0 c1 v n) (b i : Nat) (u : Value) : CpSh (w.setCell ⟨b, i, none⟩ u) c0 c1 v n := by
  rcases h with h | ⟨g, cap, cur, h1, h2, h3, h4, h5, h6, h7⟩
  · exact Or.inl h
  · by_cases e : g = b
    · subst e
      exact Or.inr ⟨g, cap, _, h1, h2, h3, heap_setCell_same w g i cur _ u h4, h5, h6, by simpa using h7⟩
    · exact Or.inr ⟨g, cap, cur, h1, h2, h3, (heap_setCell_other w ⟨b, i, none⟩ g u e).trans h4, h5, h6, h7⟩
/-- copies of one's own, by their cells -/
theorem CpsOwn.of {p0 p1 b off cap : Nat} {W : World} {L : List Cp} (hc : ∀ q u, (flatV cpL L)[q]? = some u → W.cell? ⟨b, off + q, none⟩ = some u) (hz : ∀ i (hi : i < L.length), CpSize L[i]) (hf : ∀ i, W.frozen? ⟨b, i, none⟩ = false) (hlt : b < W.heap.size) (h0 : p0 ≤ b) (h1 : b < p1) (hm : L.length ≤ maxLen) (hcap : L.length ≤ cap) :
    CpsOwn p0 p1 W (.slice (some ⟨b, off, none⟩) L.length cap) L := by
  by_cases hL : L = []
  · subst hL; exact Or.inl ⟨_, _, rfl, rfl⟩
  · have h0' : 0 < L.length := List.length_pos_iff.2 hL
    refine Or.inr ⟨b, off, cap, fun _ => b + 1, fun i => if h : i < L.length then L[i] else L[0], rfl, hL, hm, hcap, fun i hi => by simp [hi], hlt, h0, Nat.lt_succ_self _, h1, fun _ _ => Nat.le_refl _, h1, hf, fun i hi => ?_⟩
    simp only [hi, dif_pos]
    have e : ∀ t v, (cpL L[i])[t]? = some v → W.cell? ⟨b, off + i * 7 + t, none⟩ = some v := fun t v hv => by
      have ht : t < 7 := by have := (List.getElem?_eq_some_iff.1 hv).1; rwa [cpL_len] at this
      have h2 := flatV_get cpL_len L i t hi ht
      rw [hv] at h2
      have := hc _ _ h2
      rwa [← Nat.add_assoc] at this
    exact ⟨hz i hi, ⟨e 0 _ rfl, e 1 _ rfl, e 2 _ rfl, e 3 _ rfl, e 4 _ rfl, e 5 _ rfl, e 6 _ rfl⟩⟩
/-- what is in a row of one's own -/
theorem owns_cps {base c0 c1 : Nat} {w : World} {v : Value} {L : List Cp} (h : w.ownsRow base 92 7 v L.length (flatV cpL L)) (hg : ∀ g, v.ownBlock = some g → c0 ≤ g ∧ g < c1) (hz : ∀ i (hi : i < L.length), CpSize L[i]) (hm : L.length ≤ maxLen) : CpsOwn c0 c1 w v L ∧ CpSh w c0 c1 v L.length := by
  rcases h with ⟨-, ⟨rfl, hn⟩ | ⟨g, cap, cur, rfl, hbg, hh, hnc, hcm, hcs, htk⟩⟩
  · have hL : L = [] := List.eq_nil_of_length_eq_zero hn
    exact ⟨Or.inl ⟨_, _, rfl, hL⟩, Or.inl ⟨rfl, hn⟩⟩
  · obtain ⟨g1, g2⟩ := hg g rfl
    have hlt : g < w.heap.size := (Array.getElem?_eq_some_iff.1 hh).1
    refine ⟨CpsOwn.of (fun q u hu => ?_) hz (frozen_none hh) hlt g1 g2 hm hnc, Or.inr ⟨g, cap, cur, rfl, g1, g2, hh, hnc, hcm, hcs⟩⟩
    rw [cell_heap hh, Nat.zero_add, ← Array.getElem?_toList]
    rw [← htk, List.getElem?_take] at hu
    split at hu
    · exact hu
    · cases hu
theorem cps_owns {c0 c1 : Nat} {w : World} {v : Value} {L : List Cp} (h : CpsOwn c0 c1 w v L) (hs : CpSh w c0 c1 v L.length) : w.ownsRow c0 92 7 v L.length (flatV cpL L) := by
  refine ⟨flatV_len cpL_len L, ?_⟩
  rcases hs with ⟨rfl, hn⟩ | ⟨g, cap, cur, rfl, h2, h3, h4, h5, h6, h7⟩
  · exact Or.inl ⟨rfl, hn⟩
  · refine Or.inr ⟨g, cap, cur, rfl, h2, h4, h5, h6, h7, ?_⟩
    have hl := flatV_len cpL_len L
    have hnews := h.at.news (Below.refl w.heap.size w) ⟨g, 0, none⟩ rfl
    have hcl : cur.toList.length = cap * 7 := (Array.length_toList (xs := cur)).trans h7
    refine List.ext_getElem? fun j => ?_
    by_cases hj : j < L.length * 7
    · have hu : (flatV cpL L)[j]? = some ((flatV cpL L)[j]'(by omega)) := List.getElem?_eq_getElem _
      have := hnews j _ hu
      rw [Go.WideShapes.add_plain, cell_heap h4, Nat.zero_add, ← Array.getElem?_toList] at this
      rw [List.getElem?_take, if_pos hj, this, hu]
    · rw [List.getElem?_eq_none (by rw [List.length_take]; omega), List.getElem?_eq_none (by omega)]
set_option maxRecDepth 20000 in
set_option maxHeartbeats 4000000 in
theorem cloneCpsR_any (lo : Nat) (v : Value) (L : List Cp) (w : World) (hv : CpsAt lo w v L) (hn : L.length ≤ 1048576) :
    Calls Tryz.prog 66 #[v] w fun e w' => ∃ v', e = .returned v' ∧ Below w.heap.size w w' ∧ CpsOwn w.heap.size w'.heap.size w' v' L ∧ CpSh w' w.heap.size w'.heap.size v' L.length := by
  have hnil := fun W a n c => Lib.run_eql_slice_nil (P := Tryz.prog) W 33 92 a n c 0 0 Tryz.underlying33
  obtain ⟨i0, hi, hz0, hz1, hz2⟩ := info_parts Tryz.info92
  have HI := hide (And.intro hi (And.intro hz0 (And.intro hz1 hz2)))
  clear hi hz0 hz1 hz2
  have HV := hide hv
  have HZ := hide hv.sizes
  have HM := hide hv.max
  obtain ⟨a, cap, rfl⟩ := hv.form
  clear hv
  cases a with
  | none =>
    have hL : L = [] := List.eq_nil_of_length_eq_zero HV.out.nil
    subst hL
    go_enter Tryz.func66, Tryz.ntmps66
    go_wp2
    go_ret
    exact ⟨_, rfl, Below.refl _ _, Or.inl ⟨_, _, rfl, rfl⟩, Or.inl ⟨rfl, rfl⟩⟩
  | some ad =>
    have HNW : Hid (∀ o, ∀ j u, (flatV cpL L)[j]? = some u → (w.alloc o).cell? (ad.add j) = some u) := fun o j u hj => HV.out.news (one_al w o) ad rfl j u hj
    go_enter Tryz.func66, Tryz.ntmps66
    go_wp2_with (at_builtin; refine wpList_append_own_at _ rfl (.tmp 5) (.tmp 6) 33 rfl w.heap.size 92 i0 (.agg #[.string ⟨#[]⟩, .int .i64 0, .int .i64 0, .int .i64 0, .int .i64 0, .bool false, .string ⟨#[]⟩]) 7 72 Tryz.underlying33 HI.out.1 HI.out.2.1 HI.out.2.2.1 HI.out.2.2.2 rfl (by decide) _ 0 [] rfl (ownsB_made w w.heap.size 92 7 rfl (Nat.le_refl _)) ad L.length cap (flatV cpL L) rfl (flatV_len cpL_len L) (HNW.out _) (cpL_one L) (by unfold maxLen; omega) (by omega) (by simp) ?_; intro v' w4 hown4 hgrow4 hnil4 hat4)
    rw [Nat.zero_add, List.nil_append] at hown4
    have HO : Hid (CpsOwn w.heap.size w4.heap.size w4 v' L ∧ CpSh w4 w.heap.size w4.heap.size v' L.length) := owns_cps hown4 (fun g hg => by
      rcases hown4.2 with ⟨rfl, _⟩ | ⟨g', cap', cur', rfl, hbg, hh, _⟩
      · cases hg
      · cases hg
        exact ⟨hbg, (Array.getElem?_eq_some_iff.1 hh).1⟩) HZ.out HM.out
    have HB : Hid (Below w.heap.size w w4) := (one_al _ _).trans (ownsB_grown (ownsB_made w w.heap.size 92 7 rfl (Nat.le_refl _)) hgrow4 (by simp))
    clear hown4 hgrow4 hnil4 hat4
    go_wp2
    go_ret
    exact ⟨_, rfl, HB.out, HO.out⟩

end Go.Proofs.YtaogpeebencnoaaGreatDoor
namespace Go.Proofs.YtaogpeebencnoaaGreatDoor
open Go.RowKit Go.Deep

set_option maxRecDepth 20000 in
set_option maxHeartbeats 4000000 in
theorem copyBookR_any (lo : Nat) (sv cv bv : Value) (B : Sb) (w : World) (h : SbAt lo w sv cv bv B) (hn : SbSmall B) :
    Calls Tryz.prog 29 #[.agg #[.int .i64 B.now, sv, cv, bv]] w fun e w' => ∃ b0 m0 b1 m1 b2 m2, e = .returned (.agg #[.int .i64 B.now, .slice b0 B.ss.length m0, .slice b1 B.cs.length m1, .slice b2 B.bs.length m2]) ∧ Below w.heap.size w w' ∧ ∃ s0 s1 c0 c1 e0 e1 : Nat, ApartS w.heap.size w'.heap.size s0 s1 c0 c1 e0 e1 ∧ SvsOwn s0 s1 w' (.slice b0 B.ss.length m0) B.ss ∧ CpsOwn c0 c1 w' (.slice b1 B.cs.length m1) B.cs ∧ BesOwn e0 e1 w' (.slice b2 B.bs.length m2) B.bs ∧ CpSh w' c0 c1 (.slice b1 B.cs.length m1) B.cs.length := by
  have HK := hide h
  have HN := hide hn
  obtain ⟨a0, k0, rfl⟩ := h.svs.form
  obtain ⟨a1, k1, rfl⟩ := h.cps.form
  obtain ⟨a2, k2, rfl⟩ := h.bes.form
  clear h hn
  go_enter Tryz.func29, Tryz.ntmps29
  go_wp2_with fail
  generalize hWa : World.alloc (w.alloc _) _ = Wa
  have HB : Hid (Below w.heap.size w Wa) := by rw [← hWa]; exact (one_al w _).alloc (by simp) _
  have FP : Hid (Box Wa w.heap.size #[.int .i64 B.now, .slice a0 B.ss.length k0, .slice a1 B.cs.length k1, .slice a2 B.bs.length k2]) := by rw [← hWa]; exact (Box.new _ _ _ _ rfl).on (one_al _ _)
  have FR : Hid (Box Wa (w.heap.size + 1) #[.int .i64 0, .slice none 0 0, .slice none 0 0, .slice none 0 0]) := by
    unfold Hid
    rw [← hWa]
    exact Box.new _ _ _ _ (by simp)
  clear hWa
  have hz := FR.out.lt
  refine (cloneSvs_any lo _ B.ss _ (HK.out.below HB.out).svs HN.out.1.1).mono ?_
  rintro e w1 ⟨v1, rfl, hb1, ho1⟩
  obtain ⟨b0, m0, rfl⟩ := ho1.form
  replace HB := hide (bt HB.out hb1)
  replace FP := hide (FP.out.on hb1)
  replace FR := hide (FR.out.on hb1)
  have h1 := hb1.size
  have O1 := hide ho1
  clear hb1 ho1
  have p := FP.out.cell
  have pf := FP.out.free
  have p2 : ∀ u, (w1.setCell ⟨w.heap.size, 1, none⟩ u).cell? ⟨w.heap.size, 2, none⟩ = some (.slice a1 B.cs.length k1) := fun u => by rw [cell_set_ne0 _ _ _ _ _ (by omega), p]; rfl
  go_wp2_with fail
  clear p pf p2
  replace FP := hide (FP.out.set (k := 1) (.slice b0 B.ss.length m0) (by simp))
  replace FR := hide (FR.out.setFar (p := ⟨w.heap.size, 1, none⟩) (by simp only []; omega) (.slice b0 B.ss.length m0))
  replace HB := hide (HB.out.setCell (p := ⟨w.heap.size, 1, none⟩) (Nat.le_refl _) (.slice b0 B.ss.length m0))
  replace O1 := hide (O1.out.setLow (p := ⟨w.heap.size, 1, none⟩) (by simp only []; omega) (.slice b0 B.ss.length m0))
  have h1' : w1.heap.size = (w1.setCell ⟨w.heap.size, 1, none⟩ (.slice b0 B.ss.length m0)).heap.size := by simp [World.setCell]
  generalize hW1 : w1.setCell _ _ = W1 at *
  clear hW1
  refine (cloneCpsR_any lo _ B.cs _ (HK.out.below HB.out).cps HN.out.2.1.1).mono ?_
  rintro e w2 ⟨v2, rfl, hb2, ho2, hsh⟩
  have OS := hide hsh
  obtain ⟨b1, m1, rfl⟩ := ho2.form
  replace HB := hide (bt HB.out hb2)
  replace FP := hide (FP.out.on hb2)
  replace FR := hide (FR.out.on hb2)
  replace O1 := hide (O1.out.below hb2)
  have h2 := hb2.size
  have O2 := hide ho2
  clear hb2 ho2 hsh
  have p := FP.out.cell
  have pf := FP.out.free
  simp at p
  have p3 : ∀ u, (w2.setCell ⟨w.heap.size, 2, none⟩ u).cell? ⟨w.heap.size, 3, none⟩ = some (.slice a2 B.bs.length k2) := fun u => by rw [cell_set_ne0 _ _ _ _ _ (by omega), FP.out.cell 3]; rfl
  go_wp2_with fail
  clear p pf p3
  replace FP := hide (FP.out.set (k := 2) (.slice b1 B.cs.length m1) (by simp))
  replace FR := hide (FR.out.setFar (p := ⟨w.heap.size, 2, none⟩) (by simp only []; omega) (.slice b1 B.cs.length m1))
  replace HB := hide (HB.out.setCell (p := ⟨w.heap.size, 2, none⟩) (Nat.le_refl _) (.slice b1 B.cs.length m1))
  replace O1 := hide (O1.out.setLow (p := ⟨w.heap.size, 2, none⟩) (by simp only []; omega) (.slice b1 B.cs.length m1))
  replace O2 := hide (O2.out.setLow (p := ⟨w.heap.size, 2, none⟩) (by simp only []; omega) (.slice b1 B.cs.length m1))
  replace OS := hide (OS.out.set w.heap.size 2 (.slice b1 B.cs.length m1))
  have h2' : w2.heap.size = (w2.setCell ⟨w.heap.size, 2, none⟩ (.slice b1 B.cs.length m1)).heap.size := by simp [World.setCell]
  generalize hW2 : w2.setCell _ _ = W2 at *
  clear hW2
  refine (cloneBes_any lo _ B.bs _ (HK.out.below HB.out).bes HN.out.2.2.1).mono ?_
  rintro e w3 ⟨v3, rfl, hb3, ho3⟩
  obtain ⟨b2, m2, rfl⟩ := ho3.form
  replace HB := hide (bt HB.out hb3)
  replace FP := hide (FP.out.on hb3)
  replace FR := hide (FR.out.on hb3)
  replace O1 := hide (O1.out.below hb3)
  replace O2 := hide (O2.out.below hb3)
  replace OS := hide (OS.out.below hb3)
  have h3 := hb3.size
  have O3 := hide ho3
  clear hb3 ho3
  have p := FP.out.cell 3
  have pf := FP.out.free
  simp at p
  have FP2 := hide (FP.out.set (k := 3) (.slice b2 B.bs.length m2) (by simp))
  have c := FP2.out.cell
  have FR2 := hide (FR.out.setFar (p := ⟨w.heap.size, 3, none⟩) (by simp only []; omega) (.slice b2 B.bs.length m2))
  have r0 := FR2.out.cell
  have g0 := FR2.out.free
  simp at c
  go_wp2
  refine bodyPost_ret (v := .agg #[.int .i64 B.now, .slice b0 B.ss.length m0, .slice b1 B.cs.length m1, .slice b2 B.bs.length m2]) (by simp [results, Tryz.results29, go_sem, r0]) rfl ⟨_, _, _, _, _, _, rfl, ?_, ?_⟩
  · exact below_sets4 (HB.out.setCell (p := ⟨w.heap.size, 3, none⟩) (Nat.le_refl _) _) (by omega) _ _ _ _
  · refine ⟨Wa.heap.size, w1.heap.size, W1.heap.size, w2.heap.size, W2.heap.size, w3.heap.size, ⟨by simp [World.setCell]; omega, by simp [World.setCell]; omega, by simp [World.setCell]; omega, by omega, by omega, by omega⟩, ?_, ?_, ?_, ?_⟩
    · exact ((((O1.out.setLow (by simp only []; omega) _).setLow (by simp only []; omega) _).setLow (by simp only []; omega) _).setLow (by simp only []; omega) _).setLow (by simp only []; omega) _
    · exact ((((O2.out.setLow (by simp only []; omega) _).setLow (by simp only []; omega) _).setLow (by simp only []; omega) _).setLow (by simp only []; omega) _).setLow (by simp only []; omega) _
    · exact ((((O3.out.setLow (by simp only []; omega) _).setLow (by simp only []; omega) _).setLow (by simp only []; omega) _).setLow (by simp only []; omega) _).setLow (by simp only []; omega) _
    · exact ((((OS.out.set _ _ _).set _ _ _).set _ _ _).set _ _ _).set _ _ _
end Go.Proofs.YtaogpeebencnoaaGreatDoor
namespace Go.Proofs.YtaogpeebencnoaaGreatDoor
open Go.ChangeShapes Go.WideShapes Go.ChangeAt Go.RowKit Go.Deep
theorem Tryz.cells107 : Tryz.prog.cellsOf 107 = 2 := by kernel_rfl
theorem lstEn {l : List Value} (h : l.length = 2) : ∃ c0 c1, l = [c0, c1] := by
  match l, h with
  | [c0, c1], _ => exact ⟨c0, c1, rfl⟩
section
variable {H : Type} {enc : TypeId × Value → H} {W : World}
set_option maxRecDepth 100000 in
theorem open_En {fuel : Nat} {cs : List Value} {x : DataW H × List MemPlace} (h : DataW.trod enc Tryz.prog W 0 (fun _ => true) true fuel 107 cs = some x) :
    ∃ (x : En), cs = [.int .i64 x.nu, .int .i64 x.sn] ∧ EnSize x := by
  obtain ⟨xs, n, _, _, hl, hlen, hfld⟩ := DataW.trod_struct Tryz.underlying107 h
  obtain ⟨c0, c1, rfl⟩ := lstEn (hl.trans Tryz.cells107)
  simp only [Array.size, List.length_cons, List.length_nil] at hlen
  have g0 : DataW.trod enc Tryz.prog W 0 (fun _ => true) true n 3 ((([c0, c1] : List Value).drop 0).take (Tryz.prog.cellsOf 3)) = xs[0]? := hfld 0 _ rfl
  have g1 : DataW.trod enc Tryz.prog W 0 (fun _ => true) true n 3 ((([c0, c1] : List Value).drop 1).take (Tryz.prog.cellsOf 3)) = xs[1]? := hfld 1 _ rfl
  simp only [Tryz.cells3, List.drop_succ_cons, List.drop_zero, List.take_succ_cons, List.take_zero] at g0 g1
  rw [List.getElem?_eq_getElem (by omega)] at g0 g1
  obtain ⟨q0, e0, _, _⟩ := DataW.trod_int Tryz.underlying3 g0
  obtain ⟨q1, e1, _, _⟩ := DataW.trod_int Tryz.underlying3 g1
  simp only [List.cons.injEq, and_true] at e0 e1
  subst e0 e1
  exact ⟨⟨q0, q1⟩, rfl, ⟨trivial⟩⟩
set_option maxRecDepth 100000 in
theorem open_Ens {fuel : Nat} {c : Value} {x : DataW H × List MemPlace} (h : DataW.trod enc Tryz.prog W 0 (fun _ => true) true fuel 27 [c] = some x) : ∃ Xl, EnsAt 0 W c Xl := by
  rcases open_slice Tryz.underlying27 h with ⟨hcs, _⟩ | ⟨a, len, cap, m, n, D, Pl, hcs, _, hl, hm, hmm, _, hx⟩
  · simp only [List.cons.injEq, and_true] at hcs
    exact ⟨[], Or.inl ⟨_, _, hcs, rfl⟩⟩
  · simp only [List.cons.injEq, and_true] at hcs
    simp only [if_true] at hmm
    subst hmm
    rw [Tryz.cells107] at hx
    by_cases h0 : len = 0
    · subst h0
      exact ⟨[], Or.inl ⟨_, _, hcs, rfl⟩⟩
    · obtain ⟨Xl, hF, hall⟩ := choose_list (p := fun i (x : En) => EnSize x ∧ W.cells? 0 (a.add (i * 2)) 2 = some [.int .i64 x.nu, .int .i64 x.sn]) len (fun i hi => by
        obtain ⟨cs', h1, h2⟩ := hx i (by omega)
        obtain ⟨md, e, hz⟩ := open_En h2
        rw [e] at h1
        exact ⟨md, hz, h1⟩)
      obtain ⟨b, off, spot⟩ := a
      have hspot : spot = none := by
        obtain ⟨_, h1⟩ := hall 0 (by omega)
        have := (World.cells?_some h1).2.2 0 (by omega)
        rw [Nat.zero_mul] at this
        have e0 : ((⟨b, off, spot⟩ : Addr).add 0).add 0 = ⟨b, off, spot⟩ := by simp [Addr.add]
        rw [e0] at this
        simpa using World.cell?_spot (by simpa using this)
      subst hspot
      have hcell : ∀ i (hi : i < Xl.length), W.cells? 0 ((⟨b, off, none⟩ : Addr).add (i * 2)) 2 = some [.int .i64 Xl[i].nu, .int .i64 Xl[i].sn] → EnCells W b (off + i * 2) Xl[i] := fun i hi h1 => by
        obtain ⟨_, _, hc⟩ := World.cells?_some h1
        rw [add_plain] at hc
        have q := fun j (hj : j < 2) => (add_plain b (off + i * 2) j) ▸ hc j hj
        exact ⟨by simpa using q 0 (by omega), by simpa using q 1 (by omega)⟩
      have hbw : b < W.heap.size := by
        obtain ⟨_, h1⟩ := hall 0 (by omega)
        exact World.block_lt_of_cell? W _ (hcell 0 (by omega) h1).c0
      refine ⟨Xl, Or.inr ⟨b, off, m, by rw [hcs, hF], ?_, by omega, hbw, Nat.zero_le _, by omega, fun i hi => ?_⟩⟩
      · intro e; rw [e] at hF; simp at hF; omega
      · obtain ⟨hz, h1⟩ := hall i hi
        exact ⟨hz, hcell i hi h1⟩
end
theorem Tryz.cells29 : Tryz.prog.cellsOf 29 = 8 := by kernel_rfl
theorem Tryz.cells27 : Tryz.prog.cellsOf 27 = 1 := by kernel_rfl
theorem array8 {cs : Array Value} (h : cs.size = 8) : ∃ c0 c1 c2 c3 c4 c5 c6 c7, cs = #[c0, c1, c2, c3, c4, c5, c6, c7] := by
  obtain ⟨l⟩ := cs
  match l, h with
  | [c0, c1, c2, c3, c4, c5, c6, c7], _ => exact ⟨c0, c1, c2, c3, c4, c5, c6, c7, rfl⟩
section
variable {H : Type} {enc : TypeId × Value → H} {W : World}
set_option maxRecDepth 100000 in
theorem open_act {r : Reach} {b0 : Nat} {v : Value} {d : DataW H} {p : List MemPlace} (hv : Value.okWide Tryz.prog W r b0 29 v) (h : DataW.Trod enc Tryz.prog W 0 (fun _ => true) true 29 v d p) :
    ∃ (ev : Value) (A : Ac), v = .agg #[.string A.sv, .int .i64 A.sn, .int .i64 A.cr, .int .i64 A.wa, .int .i64 A.cl, .bool A.sc, ev, .bool A.dp] ∧ AcAt 0 W ev A := by
  obtain ⟨cs, rfl, hsz⟩ := okWide_struct Tryz.underlying29 hv
  obtain ⟨c0, c1, c2, c3, c4, c5, c6, c7, rfl⟩ := array8 (hsz.trans Tryz.cells29)
  obtain ⟨fuel, hf⟩ := h
  obtain ⟨xs, n, _, _, _, hlen, hfld⟩ := DataW.trod_struct Tryz.underlying29 hf
  simp only [Array.size, List.length_cons, List.length_nil] at hlen
  have g0 : DataW.trod enc Tryz.prog W 0 (fun _ => true) true n 9 ((([c0, c1, c2, c3, c4, c5, c6, c7] : List Value).drop 0).take (Tryz.prog.cellsOf 9)) = xs[0]? := hfld 0 _ rfl
  have g1 : DataW.trod enc Tryz.prog W 0 (fun _ => true) true n 3 ((([c0, c1, c2, c3, c4, c5, c6, c7] : List Value).drop 1).take (Tryz.prog.cellsOf 3)) = xs[1]? := hfld 1 _ rfl
  have g2 : DataW.trod enc Tryz.prog W 0 (fun _ => true) true n 3 ((([c0, c1, c2, c3, c4, c5, c6, c7] : List Value).drop 2).take (Tryz.prog.cellsOf 3)) = xs[2]? := hfld 2 _ rfl
  have g3 : DataW.trod enc Tryz.prog W 0 (fun _ => true) true n 3 ((([c0, c1, c2, c3, c4, c5, c6, c7] : List Value).drop 3).take (Tryz.prog.cellsOf 3)) = xs[3]? := hfld 3 _ rfl
  have g4 : DataW.trod enc Tryz.prog W 0 (fun _ => true) true n 3 ((([c0, c1, c2, c3, c4, c5, c6, c7] : List Value).drop 4).take (Tryz.prog.cellsOf 3)) = xs[4]? := hfld 4 _ rfl
  have g5 : DataW.trod enc Tryz.prog W 0 (fun _ => true) true n 4 ((([c0, c1, c2, c3, c4, c5, c6, c7] : List Value).drop 5).take (Tryz.prog.cellsOf 4)) = xs[5]? := hfld 5 _ rfl
  have g6 : DataW.trod enc Tryz.prog W 0 (fun _ => true) true n 27 ((([c0, c1, c2, c3, c4, c5, c6, c7] : List Value).drop 6).take (Tryz.prog.cellsOf 27)) = xs[6]? := hfld 6 _ rfl
  have g7 : DataW.trod enc Tryz.prog W 0 (fun _ => true) true n 4 ((([c0, c1, c2, c3, c4, c5, c6, c7] : List Value).drop 7).take (Tryz.prog.cellsOf 4)) = xs[7]? := hfld 7 _ rfl
  simp only [Tryz.cells3, Tryz.cells4, Tryz.cells9, Tryz.cells27, List.drop_succ_cons, List.drop_zero, List.take_succ_cons, List.take_zero] at g0 g1 g2 g3 g4 g5 g6 g7
  rw [List.getElem?_eq_getElem (by omega)] at g0 g1 g2 g3 g4 g5 g6 g7
  obtain ⟨q0, e0, _, s0⟩ := DataW.trod_string Tryz.underlying9 g0
  obtain ⟨q1, e1, _, _⟩ := DataW.trod_int Tryz.underlying3 g1
  obtain ⟨q2, e2, _, _⟩ := DataW.trod_int Tryz.underlying3 g2
  obtain ⟨q3, e3, _, _⟩ := DataW.trod_int Tryz.underlying3 g3
  obtain ⟨q4, e4, _, _⟩ := DataW.trod_int Tryz.underlying3 g4
  obtain ⟨q5, e5, _⟩ := DataW.trod_bool Tryz.underlying4 g5
  obtain ⟨q7, e7, _⟩ := DataW.trod_bool Tryz.underlying4 g7
  simp only [List.cons.injEq, and_true] at e0 e1 e2 e3 e4 e5 e7
  subst e0 e1 e2 e3 e4 e5 e7
  obtain ⟨Es, hE⟩ := open_Ens g6
  exact ⟨c6, ⟨q0, q1, q2, q3, q4, q5, Es, q7⟩, rfl, hE, s0⟩
end
end Go.Proofs.YtaogpeebencnoaaGreatDoor
