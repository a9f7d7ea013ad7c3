import Derived.Test.YtpdlcccnlciecaaGreatV27
import Derived.Deep.Upon
namespace Go.Proofs.YtpdlcccnlciecaaGreat
open Go.RowKit Go.Deep

theorem getP_all {L : List Cp} : ∀ {P : List Nat}, (∀ i ∈ P, i < L.length) → (getP L P).length = P.length
  | [], _ => rfl
  | i :: P, h => by
    have hi := h i (List.mem_cons_self ..)
    have ih := getP_all (L := L) (P := P) (fun j hj => h j (List.mem_cons_of_mem _ hj))
    unfold getP at ih ⊢
    rw [List.filterMap_cons, List.getElem?_eq_getElem hi]
    simp [ih]
/-- an act's values, its ends apart -/
def acL (A : Ac) (ev : Value) : List Value := [.string A.sv, .int .i64 A.sn, .int .i64 A.cr, .int .i64 A.wa, .int .i64 A.cl, .bool A.sc, ev, .bool A.dp]
theorem Tryz.sizeAct : (Tryz.prog.info? 47).map (·.size) = some 8 := by kernel_rfl
theorem res_act {P : Program} {fn : Func} {p : Tmp} {ty : TypeId} (h : fn.results = #[.cell p ty]) (tmps : Array Value) (w : World) (b o : Nat) (cs : List Value) (d : TypeDesc)
    (hp : tmps.getD p undef = .pointer (some ⟨b, o, none⟩)) (hc : w.rangeAt b o cs) (hu : P.underlying ty = some d) (hd : d.isRow = true) (hi : (P.info? ty).map (·.size) = some cs.length) :
    (results fn tmps).run P w = .ok (.agg cs.toArray) w := by
  have hp' : tmps[p]?.getD undef = .pointer (some ⟨b, o, none⟩) := by simpa using hp
  simp [results, h, hp', asAddr, run_loadVar_mid w b o ty cs d hc hu hd hi]
theorem acL_one (A : Ac) {a : Option Addr} {n k : Nat} : (acL A (.slice a n k)).toArray.all (·.oneCell') = true := by simp [acL, Value.oneCell']
abbrev zAct : List Value := [.string ⟨#[]⟩, .int .i64 0, .int .i64 0, .int .i64 0, .int .i64 0, .bool false, .slice none 0 0, .bool false]
theorem live_n (B : Sb) (s : ByteArray) : (plc (liveB s) B.cs B.cs.length).length = (liveL B s).length := by
  have h1 := getP_plc (liveB s) B.cs B.cs.length (Nat.le_refl _)
  rw [List.take_length] at h1
  rw [← getP_all (L := B.cs) (fun i hi => plc_lt hi), h1]
  rfl

set_option maxRecDepth 100000 in
set_option maxHeartbeats 16000000 in
theorem l16Counter_any (lo : Nat) (sv cv bv : Value) (B : Sb) (x : Sv) (w : World) (h : SbAt lo w sv cv bv B) (hv : MayOk B) (hl : B.cs.length ≤ 200) (hw : 0 ≤ x.wa ∧ x.wa ≤ 10) (ho : 0 ≤ x.ov ∧ x.ov ≤ 10) :
    Calls Tryz.prog 46 #[.agg #[.int .i64 B.now, sv, cv, bv], .agg #[.string x.nm, .int .i64 x.ve, .bool x.gn, .int .i64 x.im, .int .i64 x.wa, .int .i64 x.dn, .int .i64 x.ov, .int .i64 x.nx, .int .i64 x.pr, .int .i64 x.ls, .int .i64 x.ms, .int .i64 x.ld, .int .i64 x.cl], .agg (acL (ac0 x) (.slice none 0 0)).toArray] w fun e w' => ∃ ev, e = .returned (.agg (acL (cntF B x) ev).toArray) ∧ Below w.heap.size w w' ∧ ERow w' w.heap.size ev (cntF B x).es := by
  have HK := hide h
  have HV := hide hv
  obtain ⟨a0, k0, rfl⟩ := h.svs.form
  obtain ⟨a1, k1, rfl⟩ := h.cps.form
  obtain ⟨a2, k2, rfl⟩ := h.bes.form
  clear h hv
  dsimp only [acL, ac0]
  go_enter Tryz.func46, Tryz.ntmps46
  go_wp2_with fail
  generalize hWa : World.alloc (World.alloc (World.alloc (w.alloc _) _) _) _ = Wa
  have HB : Hid (Below w.heap.size w Wa) := by unfold Hid; rw [← hWa]; exact (((one_al w _).alloc (by simp) _).alloc (by simp; omega) _).alloc (by simp; omega) _
  have F1 : Hid (Box Wa w.heap.size #[.int .i64 B.now, .slice a0 B.ss.length k0, .slice a1 B.cs.length k1, .slice a2 B.bs.length k2]) := by unfold Hid; rw [← hWa]; exact (((Box.new _ _ _ _ rfl).on (one_al _ _)).on (one_al _ _)).on (one_al _ _)
  have FS : Hid (Box Wa (w.heap.size + 1) #[.string x.nm, .int .i64 x.ve, .bool x.gn, .int .i64 x.im, .int .i64 x.wa, .int .i64 x.dn, .int .i64 x.ov, .int .i64 x.nx, .int .i64 x.pr, .int .i64 x.ls, .int .i64 x.ms, .int .i64 x.ld, .int .i64 x.cl]) := by unfold Hid; rw [← hWa]; exact ((Box.new _ _ _ _ (by simp)).on (one_al _ _)).on (one_al _ _)
  have FA : Hid (Box Wa (w.heap.size + 1 + 1) (acL (ac0 x) (.slice none 0 0)).toArray) := by unfold Hid; rw [← hWa]; exact (Box.new _ _ _ _ (by simp)).on (one_al _ _)
  have FR : Hid (Box Wa (w.heap.size + 1 + 1 + 1) zAct.toArray) := by unfold Hid; rw [← hWa]; exact Box.new _ _ _ _ (by simp)
  have hsz : w.heap.size + 4 ≤ Wa.heap.size := by rw [← hWa]; simp
  clear hWa
  refine (l16Live_any lo _ _ _ B x.nm _ (HK.out.below HB.out) (by omega)).mono ?_
  rintro e w1 ⟨v, rfl, hb1, hrow⟩
  replace HB := hide (bt HB.out hb1)
  replace F1 := hide (F1.out.on hb1)
  replace FS := hide (FS.out.on hb1)
  replace FA := hide (FA.out.on hb1)
  replace FR := hide (FR.out.on hb1)
  have hz1 := hb1.size
  have PM : Hid (∀ i ∈ plc (liveB x.nm) B.cs B.cs.length, i < B.cs.length) := fun i hi => plc_lt hi
  have PL : Hid (getP B.cs (plc (liveB x.nm) B.cs B.cs.length) = liveL B x.nm) := by
    unfold Hid
    rw [getP_plc _ _ _ (Nat.le_refl _), List.take_length]
    rfl
  have PN := hide (live_n B x.nm)
  have pln : (plc (liveB x.nm) B.cs B.cs.length).length ≤ 200 := by
    unfold plc
    exact Nat.le_trans (List.length_filter_le _ _) (by simp; omega)
  generalize hPE : plc (liveB x.nm) B.cs B.cs.length = P at *
  have HPE := hide hPE
  clear hPE
  obtain ⟨a9, k9, rfl⟩ := hrow.form
  have HROW := hide hrow
  clear hb1 hrow
  have s4 := FS.out.cell 4
  simp at s4
  by_cases hn : (P.length : Int) < x.wa
  · have HE : Hid (cntF B x = { ac0 x with cr := x.wa - (P.length : Nat) }) := by
      unfold Hid cntF
      rw [← PN.out]
      simp only []
      rw [if_pos hn]
    have vv : IntKind.i64.wrap (x.wa - (P.length : Nat)) = x.wa - (P.length : Nat) := by rw [IntWalk.i64_left]; unfold wrap64; omega
    have a2' := FA.out.cell 2
    have af := FA.out.free 2
    simp [acL, ac0] at a2'
    have FA2 := hide (FA.out.set (k := 2) (.int .i64 (x.wa - (P.length : Nat))) (by simp [acL]))
    have FR2 := hide (FR.out.setFar (p := ⟨w.heap.size + 1 + 1, 2, none⟩) (by simp only []; omega) (.int .i64 (x.wa - (P.length : Nat))))
    have HB2 := hide (HB.out.setCell (p := ⟨w.heap.size + 1 + 1, 2, none⟩) (by simp only []; omega) (.int .i64 (x.wa - (P.length : Nat))))
    have HRA : Hid ((w1.setCell ⟨w.heap.size + 1 + 1, 2, none⟩ (.int .i64 (x.wa - (P.length : Nat)))).rangeAt (w.heap.size + 1 + 1) 0 (acL { ac0 x with cr := x.wa - (P.length : Nat) } (.slice none 0 0))) := FA2.out.range rfl
    have HTH : Hid ((w1.setCell ⟨w.heap.size + 1 + 1, 2, none⟩ (.int .i64 (x.wa - (P.length : Nat)))).there (w.heap.size + 1 + 1 + 1) 0 8) := FR2.out.there rfl
    go_wp2_with (first
      | (refine wpList_load_mid rfl 47 (.tmp 5) rfl (w.heap.size + 1 + 1) 0 rfl (acL { ac0 x with cr := x.wa - (P.length : Nat) } (.slice none 0 0)) _ HRA.out Tryz.underlying47 rfl Tryz.sizeAct ?_)
      | (refine wpList_store_mid rfl 47 (.tmp 6) (.tmp 25) rfl (w.heap.size + 1 + 1 + 1) 0 (acL { ac0 x with cr := x.wa - (P.length : Nat) } (.slice none 0 0)).toArray rfl rfl HTH.out Tryz.sizeAct (acL_one _) ?_; refine Hid.out ?_))
    generalize hW : World.setCells _ _ _ _ = W9
    have FR9 : Hid (Box W9 (w.heap.size + 1 + 1 + 1) (acL { ac0 x with cr := x.wa - (P.length : Nat) } (.slice none 0 0)).toArray) := by unfold Hid; rw [← hW]; exact FR2.out.full (cs' := (acL { ac0 x with cr := x.wa - (P.length : Nat) } (.slice none 0 0)).toArray) rfl
    have HB9 : Hid (Below w.heap.size w W9) := by unfold Hid; rw [← hW]; exact Below.sets (by omega) _ _ HB2.out
    have HER : Hid (ERow W9 w.heap.size (.slice none 0 0) []) := ⟨rfl, Or.inl ⟨rfl, rfl⟩⟩
    clear hW
    refine hide ?_
    go_wp2
    refine bodyPost_ret (v := .agg (acL { ac0 x with cr := x.wa - (P.length : Nat) } (.slice none 0 0)).toArray) (res_act rfl _ _ (w.heap.size + 1 + 1 + 1) 0 (acL { ac0 x with cr := x.wa - (P.length : Nat) } (.slice none 0 0)) _ rfl (FR9.out.range rfl) Tryz.underlying47 rfl Tryz.sizeAct) rfl ⟨(.slice none 0 0), by rw [HE.out]; rfl, HB9.out, by rw [HE.out]; exact HER.out⟩
  · obtain ⟨O, hO⟩ : ∃ O, O = (oldL B x).length := ⟨_, rfl⟩
    obtain ⟨D, hD⟩ : ∃ D, D = (drL B x).length := ⟨_, rfl⟩
    have SO : Hid ((someP B x 2 P).length = O) := by
      unfold Hid
      rw [hO, ← getP_all (L := B.cs) (P := someP B x 2 P) (fun i hi => PM.out i (List.mem_filter.1 hi).1), getP_some, PL.out]
      rfl
    have SD : Hid ((someP B x 6 P).length = D) := by
      unfold Hid
      rw [hD, ← getP_all (L := B.cs) (P := someP B x 6 P) (fun i hi => PM.out i (List.mem_filter.1 hi).1), getP_some, PL.out]
      rfl
    have HCN : Hid (cntF B x = if x.wa < (P.length : Nat) ∧ ((O = 0 ∧ D = 0) ∨ x.wa + x.ov < (P.length : Nat)) then (match fstC B x.im (liveL B x.nm) with | some c => if mayT B x.nm c.nu then { ac0 x with es := [enOf c] } else ac0 x | none => ac0 x) else ac0 x) := by
      unfold Hid cntF
      rw [← PN.out, hO, hD]
      simp only []
      rw [if_neg hn]
      rfl
    clear hO hD
    have p1 := F1.out.cell
    have sc := FS.out.cell
    go_wp2_with fail
    clear p1 sc
    refine (l16Some_any lo _ _ _ B x 2 (Or.inl rfl) _ (HK.out.below HB.out) hl).mono ?_
    rintro e w2 ⟨v2, rfl, hb2, hrow2⟩
    rw [HPE.out] at hrow2
    obtain ⟨a5, k5, e5⟩ := hrow2.form
    rw [SO.out] at e5
    subst e5
    have HBb := hide (bt HB.out hb2)
    have F1b := hide (F1.out.on hb2)
    have FSb := hide (FS.out.on hb2)
    have FAb := hide (FA.out.on hb2)
    have FRb := hide (FR.out.on hb2)
    have HROWb := hide (HROW.out.below hb2)
    have hzzb := hb2.size
    clear hb2 hrow2 HB F1 FS FA FR HROW s4
    have s4 := FSb.out.cell 4
    simp at s4
    by_cases hO0 : O = 0
    · have hOz : ((O : Int) == 0) = true := by simp [hO0]
      have p1 := F1b.out.cell
      have sc := FSb.out.cell
      go_wp2_with fail
      clear p1 sc
      refine (l16Some_any lo _ _ _ B x 6 (Or.inr (Or.inl rfl)) _ (HK.out.below HBb.out) hl).mono ?_
      rintro e w3 ⟨v3, rfl, hb3, hrow3⟩
      rw [HPE.out] at hrow3
      obtain ⟨a6, k6, e6⟩ := hrow3.form
      rw [SD.out] at e6
      subst e6
      have HBd := hide (bt HBb.out hb3)
      have F1d := hide (F1b.out.on hb3)
      have FSd := hide (FSb.out.on hb3)
      have FAd := hide (FAb.out.on hb3)
      have FRd := hide (FRb.out.on hb3)
      have HROWd := hide (HROWb.out.below hb3)
      have hzzd := hb3.size
      clear hb3 hrow3 HBb F1b FSb FAb FRb HROWb s4
      have s4 := FSd.out.cell 4
      simp at s4
      by_cases hD0 : D = 0
      · have hDz : ((D : Int) == 0) = true := by simp [hD0]
        have HCA : Hid (O = 0 ∧ D = 0) := ⟨hO0, hD0⟩
        clear hO0 hD0
        by_cases c1 : x.wa < (P.length : Nat)
        · have HCO : Hid (x.wa < (P.length : Nat) ∧ ((O = 0 ∧ D = 0) ∨ x.wa + x.ov < (P.length : Nat))) := ⟨c1, Or.inl HCA.out⟩
          have HFC : Hid (∃ c, fstC B x.im (liveL B x.nm) = some c) := by
            cases hq : liveL B x.nm with
            | nil =>
              have := PN.out
              rw [hq] at this
              simp at this
              exfalso
              rw [this] at c1
              simp at c1
              omega
            | cons a L => exact ⟨_, rfl⟩
          obtain ⟨c, hfc⟩ := HFC.out
          have HFE : Hid (fstE B x.im (getP B.cs P) = [enOf c]) := by unfold Hid fstE; rw [PL.out, hfc]; rfl
          have HE0 : Hid (cntF B x = if mayT B x.nm c.nu then { ac0 x with es := [enOf c] } else ac0 x) := by
            unfold Hid
            rw [HCN.out, if_pos HCO.out, hfc]
          clear hfc
          have p1 := F1d.out.cell
          have sc := FSd.out.cell
          go_wp2_with fail
          clear p1 sc
          refine (l16First_any lo _ _ _ _ _ B x P _ (HK.out.below HBd.out) HROWd.out PM.out (by omega)).mono ?_
          rintro e w4 ⟨ev, rfl, hb4, her⟩
          rw [HFE.out] at her
          have HB4 := hide (bt HBd.out hb4)
          have F14 := hide (F1d.out.on hb4)
          have FS4 := hide (FSd.out.on hb4)
          have FA4 := hide (FAd.out.on hb4)
          have FR4 := hide (FRd.out.on hb4)
          have hz4 := hb4.size
          obtain ⟨eg, ec, rfl, hez, heg, hec⟩ : ∃ g cap, ev = .slice (some ⟨g, 0, none⟩) 1 cap ∧ g < w4.heap.size ∧ w3.heap.size ≤ g ∧ w4.cell? ⟨g, 0, none⟩ = some (.int .i64 c.nu) := by
            rcases her.2 with ⟨-, h0⟩ | ⟨g, cap, cur, rfl, hbg, hh, -, -, hcs, htk⟩
            · cases h0
            · refine ⟨g, cap, rfl, (Array.getElem?_eq_some_iff.1 hh).1, hbg, ?_⟩
              have h1 : (flatV enL [enOf c])[0]? = some (.int .i64 c.nu) := rfl
              rw [← htk, List.getElem?_take] at h1
              simp only [World.cell?, hh]
              rw [← Array.getElem?_toList]
              simpa using h1
          have HERw := hide her
          clear hb4 her
          go_wp2
          go_cut [67] from 60 to 67 (fun v wc => v = .bool (mayT B x.nm c.nu) ∧ Below w4.heap.size w4 wc)
          case first =>
            have xn : Nonempty (In (Up w4)) := ⟨⟨w4, Below.refl _ _⟩⟩
            have xs := fun (Y : In (Up w4)) => in_self Y
            have p0 : ∀ Y : In (Up w4), _ := fun Y => Up.cell Y (F14.out.cell 0)
            have p1 : ∀ Y : In (Up w4), _ := fun Y => Up.cell Y (F14.out.cell 1)
            have p2 : ∀ Y : In (Up w4), _ := fun Y => Up.cell Y (F14.out.cell 2)
            have p3 : ∀ Y : In (Up w4), _ := fun Y => Up.cell Y (F14.out.cell 3)
            have s0 : ∀ Y : In (Up w4), _ := fun Y => Up.cell Y (FS4.out.cell 0)
            have l0 : ∀ Y : In (Up w4), _ := fun Y => Up.cell Y hec
            simp at p0 p1 p2 p3 s0
            refine wp_region_class (Up w4) (by kernel_rfl) (by kernel_rfl) ((Below.refl _ _).drew) ?_
            repeat (go_big_quiet_step (first | (go_at_call 65; rename_i Y; exact (l14MayEnd_any lo _ _ _ B x.nm c.nu _ (HK.out.below (bt HB4.out Y.h)) HV.out).mono fun _ _ h => ⟨h.1, Up.next Y h.2⟩)))
            refine wpQuiet_nil ?_
            intro wn hwn
            obtain ⟨Y, hY⟩ := hwn
            have HWN : Below w4.heap.size w4 wn := by rw [hY]; exact Y.h
            clear hY Y p0 p1 p2 p3 s0 l0 xs xn
            go_wp2
            go_meet
            exact ⟨rfl, HWN⟩
          case rest =>
          revert wc
          intro w5 hcut
          obtain ⟨rfl, hb5⟩ := hcut
          have HB5 := hide (bt HB4.out hb5)
          have FA5 := hide (FA4.out.on hb5)
          have FR5 := hide (FR4.out.on hb5)
          have HER5 := hide (HERw.out.below hb5)
          have hz5 := hb5.size
          clear hb5 HB4 F14 FS4 FA4 FR4 HERw
          cases hm : mayT B x.nm c.nu with
          | false =>
            have HE : Hid (cntF B x = ac0 x) := by unfold Hid; rw [HE0.out, hm]; rfl
            have HRA := hide (FA5.out.range (l := acL (ac0 x) (.slice none 0 0)) rfl)
            have HTH : Hid (_ : Prop) := FR5.out.there (n := 8) rfl
            go_wp2_with (first
              | (refine wpList_load_mid rfl 47 (.tmp 5) rfl (w.heap.size + 1 + 1) 0 rfl (acL (ac0 x) (.slice none 0 0)) _ HRA.out Tryz.underlying47 rfl Tryz.sizeAct ?_)
              | (refine wpList_store_mid rfl 47 (.tmp 6) (.tmp 70) rfl (w.heap.size + 1 + 1 + 1) 0 (acL (ac0 x) (.slice none 0 0)).toArray rfl rfl HTH.out Tryz.sizeAct (acL_one _) ?_; refine Hid.out ?_))
            generalize hW : World.setCells _ _ _ _ = W9
            have FR9 : Hid (Box W9 (w.heap.size + 1 + 1 + 1) (acL (ac0 x) (.slice none 0 0)).toArray) := by unfold Hid; rw [← hW]; exact FR5.out.full (cs' := (acL (ac0 x) (.slice none 0 0)).toArray) rfl
            have HB9 : Hid (Below w.heap.size w W9) := by unfold Hid; rw [← hW]; exact Below.sets (by omega) _ _ HB5.out
            have HER : Hid (ERow W9 w.heap.size (.slice none 0 0) []) := ⟨rfl, Or.inl ⟨rfl, rfl⟩⟩
            clear hW
            refine hide ?_
            go_wp2
            refine bodyPost_ret (v := .agg (acL (ac0 x) (.slice none 0 0)).toArray) (res_act rfl _ _ (w.heap.size + 1 + 1 + 1) 0 (acL (ac0 x) (.slice none 0 0)) _ rfl (FR9.out.range rfl) Tryz.underlying47 rfl Tryz.sizeAct) rfl ⟨(.slice none 0 0), by rw [HE.out]; rfl, HB9.out, by rw [HE.out]; exact HER.out⟩
          | true =>
            have HE : Hid (cntF B x = { ac0 x with es := [enOf c] }) := by unfold Hid; rw [HE0.out, hm]; rfl
            have a6 := FA5.out.cell 6
            have af := FA5.out.free 6
            simp [acL, ac0] at a6
            have FA6 := hide (FA5.out.set (k := 6) (.slice (some ⟨eg, 0, none⟩) 1 ec) (by simp [acL]))
            have FR6 := hide (FR5.out.setFar (p := ⟨w.heap.size + 1 + 1, 6, none⟩) (by simp only []; omega) (.slice (some ⟨eg, 0, none⟩) 1 ec))
            have HB6 := hide (HB5.out.setCell (p := ⟨w.heap.size + 1 + 1, 6, none⟩) (by simp only []; omega) (.slice (some ⟨eg, 0, none⟩) 1 ec))
            have HRA := hide (FA6.out.range (l := acL { ac0 x with es := [enOf c] } (.slice (some ⟨eg, 0, none⟩) 1 ec)) rfl)
            have HTH : Hid ((w5.setCell ⟨w.heap.size + 1 + 1, 6, none⟩ (.slice (some ⟨eg, 0, none⟩) 1 ec)).there (w.heap.size + 1 + 1 + 1) 0 8) := FR6.out.there rfl
            go_wp2_with (first
              | (refine wpList_load_mid rfl 47 (.tmp 5) rfl (w.heap.size + 1 + 1) 0 rfl (acL { ac0 x with es := [enOf c] } (.slice (some ⟨eg, 0, none⟩) 1 ec)) _ HRA.out Tryz.underlying47 rfl Tryz.sizeAct ?_)
              | (refine wpList_store_mid rfl 47 (.tmp 6) (.tmp 70) rfl (w.heap.size + 1 + 1 + 1) 0 (acL { ac0 x with es := [enOf c] } (.slice (some ⟨eg, 0, none⟩) 1 ec)).toArray rfl rfl HTH.out Tryz.sizeAct (acL_one _) ?_; refine Hid.out ?_))
            generalize hW : World.setCells _ _ _ _ = W9
            have FR9 : Hid (Box W9 (w.heap.size + 1 + 1 + 1) (acL { ac0 x with es := [enOf c] } (.slice (some ⟨eg, 0, none⟩) 1 ec)).toArray) := by unfold Hid; rw [← hW]; exact FR6.out.full (cs' := (acL { ac0 x with es := [enOf c] } (.slice (some ⟨eg, 0, none⟩) 1 ec)).toArray) rfl
            have HB9 : Hid (Below w.heap.size w W9) := by unfold Hid; rw [← hW]; exact Below.sets (by omega) _ _ HB6.out
            have HER : Hid (ERow W9 w.heap.size (.slice (some ⟨eg, 0, none⟩) 1 ec) [enOf c]) := by
              unfold Hid
              rw [← hW]
              refine ERow.low (base := w3.heap.size) ?_ (by omega)
              obtain ⟨h1, h2 | ⟨g, cap, cur, h3, h4, h5, h6⟩⟩ := HER5.out
              · exact ⟨h1, Or.inl h2⟩
              · refine ⟨h1, Or.inr ⟨g, cap, cur, h3, h4, ?_, h6⟩⟩
                have hgz := (Array.getElem?_eq_some_iff.1 h5).1
                rw [World.heap_setCells_other _ _ _ _ (by simpa [World.setCell] using hgz) (by omega), Below.heap_setCell _ _ _ _ (by simp only []; omega)]
                exact h5
            clear hW
            refine hide ?_
            go_wp2
            refine bodyPost_ret (v := .agg (acL { ac0 x with es := [enOf c] } (.slice (some ⟨eg, 0, none⟩) 1 ec)).toArray) (res_act rfl _ _ (w.heap.size + 1 + 1 + 1) 0 (acL { ac0 x with es := [enOf c] } (.slice (some ⟨eg, 0, none⟩) 1 ec)) _ rfl (FR9.out.range rfl) Tryz.underlying47 rfl Tryz.sizeAct) rfl ⟨(.slice (some ⟨eg, 0, none⟩) 1 ec), by rw [HE.out]; rfl, HB9.out, by rw [HE.out]; exact HER.out⟩
        · have HCO : Hid (¬ (x.wa < (P.length : Nat) ∧ ((O = 0 ∧ D = 0) ∨ x.wa + x.ov < (P.length : Nat)))) := fun hq => c1 hq.1
          have HE : Hid (cntF B x = ac0 x) := by unfold Hid; rw [HCN.out, if_neg HCO.out]
          have HRA := hide (FAd.out.range (l := acL (ac0 x) (.slice none 0 0)) rfl)
          have HTH : Hid (_ : Prop) := FRd.out.there (n := 8) rfl
          go_wp2_with (first
            | (refine wpList_load_mid rfl 47 (.tmp 5) rfl (w.heap.size + 1 + 1) 0 rfl (acL (ac0 x) (.slice none 0 0)) _ HRA.out Tryz.underlying47 rfl Tryz.sizeAct ?_)
            | (refine wpList_store_mid rfl 47 (.tmp 6) (.tmp 70) rfl (w.heap.size + 1 + 1 + 1) 0 (acL (ac0 x) (.slice none 0 0)).toArray rfl rfl HTH.out Tryz.sizeAct (acL_one _) ?_; refine Hid.out ?_))
          generalize hW : World.setCells _ _ _ _ = W9
          have FR9 : Hid (Box W9 (w.heap.size + 1 + 1 + 1) (acL (ac0 x) (.slice none 0 0)).toArray) := by unfold Hid; rw [← hW]; exact FRd.out.full (cs' := (acL (ac0 x) (.slice none 0 0)).toArray) rfl
          have HB9 : Hid (Below w.heap.size w W9) := by unfold Hid; rw [← hW]; exact Below.sets (by omega) _ _ HBd.out
          have HER : Hid (ERow W9 w.heap.size (.slice none 0 0) []) := ⟨rfl, Or.inl ⟨rfl, rfl⟩⟩
          clear hW
          refine hide ?_
          go_wp2
          refine bodyPost_ret (v := .agg (acL (ac0 x) (.slice none 0 0)).toArray) (res_act rfl _ _ (w.heap.size + 1 + 1 + 1) 0 (acL (ac0 x) (.slice none 0 0)) _ rfl (FR9.out.range rfl) Tryz.underlying47 rfl Tryz.sizeAct) rfl ⟨(.slice none 0 0), by rw [HE.out]; rfl, HB9.out, by rw [HE.out]; exact HER.out⟩
      · have hDz : ((D : Int) == 0) = false := by simp; omega
        have HCA : Hid (¬ (O = 0 ∧ D = 0)) := fun hq => hD0 hq.2
        clear hO0 hD0
        by_cases c1 : x.wa < (P.length : Nat)
        · have vv : IntKind.i64.wrap (x.wa + x.ov) = x.wa + x.ov := by rw [IntWalk.i64_left]; unfold wrap64; omega
          have s6 := FSd.out.cell 6
          simp at s6
          by_cases c3 : x.wa + x.ov < (P.length : Nat)
          · have HCO : Hid (x.wa < (P.length : Nat) ∧ ((O = 0 ∧ D = 0) ∨ x.wa + x.ov < (P.length : Nat))) := ⟨c1, Or.inr c3⟩
            have HFC : Hid (∃ c, fstC B x.im (liveL B x.nm) = some c) := by
              cases hq : liveL B x.nm with
              | nil =>
                have := PN.out
                rw [hq] at this
                simp at this
                exfalso
                rw [this] at c1
                simp at c1
                omega
              | cons a L => exact ⟨_, rfl⟩
            obtain ⟨c, hfc⟩ := HFC.out
            have HFE : Hid (fstE B x.im (getP B.cs P) = [enOf c]) := by unfold Hid fstE; rw [PL.out, hfc]; rfl
            have HE0 : Hid (cntF B x = if mayT B x.nm c.nu then { ac0 x with es := [enOf c] } else ac0 x) := by
              unfold Hid
              rw [HCN.out, if_pos HCO.out, hfc]
            clear hfc
            have p1 := F1d.out.cell
            have sc := FSd.out.cell
            go_wp2_with fail
            clear p1 sc
            refine (l16First_any lo _ _ _ _ _ B x P _ (HK.out.below HBd.out) HROWd.out PM.out (by omega)).mono ?_
            rintro e w4 ⟨ev, rfl, hb4, her⟩
            rw [HFE.out] at her
            have HB4 := hide (bt HBd.out hb4)
            have F14 := hide (F1d.out.on hb4)
            have FS4 := hide (FSd.out.on hb4)
            have FA4 := hide (FAd.out.on hb4)
            have FR4 := hide (FRd.out.on hb4)
            have hz4 := hb4.size
            obtain ⟨eg, ec, rfl, hez, heg, hec⟩ : ∃ g cap, ev = .slice (some ⟨g, 0, none⟩) 1 cap ∧ g < w4.heap.size ∧ w3.heap.size ≤ g ∧ w4.cell? ⟨g, 0, none⟩ = some (.int .i64 c.nu) := by
              rcases her.2 with ⟨-, h0⟩ | ⟨g, cap, cur, rfl, hbg, hh, -, -, hcs, htk⟩
              · cases h0
              · refine ⟨g, cap, rfl, (Array.getElem?_eq_some_iff.1 hh).1, hbg, ?_⟩
                have h1 : (flatV enL [enOf c])[0]? = some (.int .i64 c.nu) := rfl
                rw [← htk, List.getElem?_take] at h1
                simp only [World.cell?, hh]
                rw [← Array.getElem?_toList]
                simpa using h1
            have HERw := hide her
            clear hb4 her
            go_wp2
            go_cut [67] from 60 to 67 (fun v wc => v = .bool (mayT B x.nm c.nu) ∧ Below w4.heap.size w4 wc)
            case first =>
              have xn : Nonempty (In (Up w4)) := ⟨⟨w4, Below.refl _ _⟩⟩
              have xs := fun (Y : In (Up w4)) => in_self Y
              have p0 : ∀ Y : In (Up w4), _ := fun Y => Up.cell Y (F14.out.cell 0)
              have p1 : ∀ Y : In (Up w4), _ := fun Y => Up.cell Y (F14.out.cell 1)
              have p2 : ∀ Y : In (Up w4), _ := fun Y => Up.cell Y (F14.out.cell 2)
              have p3 : ∀ Y : In (Up w4), _ := fun Y => Up.cell Y (F14.out.cell 3)
              have s0 : ∀ Y : In (Up w4), _ := fun Y => Up.cell Y (FS4.out.cell 0)
              have l0 : ∀ Y : In (Up w4), _ := fun Y => Up.cell Y hec
              simp at p0 p1 p2 p3 s0
              refine wp_region_class (Up w4) (by kernel_rfl) (by kernel_rfl) ((Below.refl _ _).drew) ?_
              repeat (go_big_quiet_step (first | (go_at_call 65; rename_i Y; exact (l14MayEnd_any lo _ _ _ B x.nm c.nu _ (HK.out.below (bt HB4.out Y.h)) HV.out).mono fun _ _ h => ⟨h.1, Up.next Y h.2⟩)))
              refine wpQuiet_nil ?_
              intro wn hwn
              obtain ⟨Y, hY⟩ := hwn
              have HWN : Below w4.heap.size w4 wn := by rw [hY]; exact Y.h
              clear hY Y p0 p1 p2 p3 s0 l0 xs xn
              go_wp2
              go_meet
              exact ⟨rfl, HWN⟩
            case rest =>
            revert wc
            intro w5 hcut
            obtain ⟨rfl, hb5⟩ := hcut
            have HB5 := hide (bt HB4.out hb5)
            have FA5 := hide (FA4.out.on hb5)
            have FR5 := hide (FR4.out.on hb5)
            have HER5 := hide (HERw.out.below hb5)
            have hz5 := hb5.size
            clear hb5 HB4 F14 FS4 FA4 FR4 HERw
            cases hm : mayT B x.nm c.nu with
            | false =>
              have HE : Hid (cntF B x = ac0 x) := by unfold Hid; rw [HE0.out, hm]; rfl
              have HRA := hide (FA5.out.range (l := acL (ac0 x) (.slice none 0 0)) rfl)
              have HTH : Hid (_ : Prop) := FR5.out.there (n := 8) rfl
              go_wp2_with (first
                | (refine wpList_load_mid rfl 47 (.tmp 5) rfl (w.heap.size + 1 + 1) 0 rfl (acL (ac0 x) (.slice none 0 0)) _ HRA.out Tryz.underlying47 rfl Tryz.sizeAct ?_)
                | (refine wpList_store_mid rfl 47 (.tmp 6) (.tmp 70) rfl (w.heap.size + 1 + 1 + 1) 0 (acL (ac0 x) (.slice none 0 0)).toArray rfl rfl HTH.out Tryz.sizeAct (acL_one _) ?_; refine Hid.out ?_))
              generalize hW : World.setCells _ _ _ _ = W9
              have FR9 : Hid (Box W9 (w.heap.size + 1 + 1 + 1) (acL (ac0 x) (.slice none 0 0)).toArray) := by unfold Hid; rw [← hW]; exact FR5.out.full (cs' := (acL (ac0 x) (.slice none 0 0)).toArray) rfl
              have HB9 : Hid (Below w.heap.size w W9) := by unfold Hid; rw [← hW]; exact Below.sets (by omega) _ _ HB5.out
              have HER : Hid (ERow W9 w.heap.size (.slice none 0 0) []) := ⟨rfl, Or.inl ⟨rfl, rfl⟩⟩
              clear hW
              refine hide ?_
              go_wp2
              refine bodyPost_ret (v := .agg (acL (ac0 x) (.slice none 0 0)).toArray) (res_act rfl _ _ (w.heap.size + 1 + 1 + 1) 0 (acL (ac0 x) (.slice none 0 0)) _ rfl (FR9.out.range rfl) Tryz.underlying47 rfl Tryz.sizeAct) rfl ⟨(.slice none 0 0), by rw [HE.out]; rfl, HB9.out, by rw [HE.out]; exact HER.out⟩
            | true =>
              have HE : Hid (cntF B x = { ac0 x with es := [enOf c] }) := by unfold Hid; rw [HE0.out, hm]; rfl
              have a6 := FA5.out.cell 6
              have af := FA5.out.free 6
              simp [acL, ac0] at a6
              have FA6 := hide (FA5.out.set (k := 6) (.slice (some ⟨eg, 0, none⟩) 1 ec) (by simp [acL]))
              have FR6 := hide (FR5.out.setFar (p := ⟨w.heap.size + 1 + 1, 6, none⟩) (by simp only []; omega) (.slice (some ⟨eg, 0, none⟩) 1 ec))
              have HB6 := hide (HB5.out.setCell (p := ⟨w.heap.size + 1 + 1, 6, none⟩) (by simp only []; omega) (.slice (some ⟨eg, 0, none⟩) 1 ec))
              have HRA := hide (FA6.out.range (l := acL { ac0 x with es := [enOf c] } (.slice (some ⟨eg, 0, none⟩) 1 ec)) rfl)
              have HTH : Hid ((w5.setCell ⟨w.heap.size + 1 + 1, 6, none⟩ (.slice (some ⟨eg, 0, none⟩) 1 ec)).there (w.heap.size + 1 + 1 + 1) 0 8) := FR6.out.there rfl
              go_wp2_with (first
                | (refine wpList_load_mid rfl 47 (.tmp 5) rfl (w.heap.size + 1 + 1) 0 rfl (acL { ac0 x with es := [enOf c] } (.slice (some ⟨eg, 0, none⟩) 1 ec)) _ HRA.out Tryz.underlying47 rfl Tryz.sizeAct ?_)
                | (refine wpList_store_mid rfl 47 (.tmp 6) (.tmp 70) rfl (w.heap.size + 1 + 1 + 1) 0 (acL { ac0 x with es := [enOf c] } (.slice (some ⟨eg, 0, none⟩) 1 ec)).toArray rfl rfl HTH.out Tryz.sizeAct (acL_one _) ?_; refine Hid.out ?_))
              generalize hW : World.setCells _ _ _ _ = W9
              have FR9 : Hid (Box W9 (w.heap.size + 1 + 1 + 1) (acL { ac0 x with es := [enOf c] } (.slice (some ⟨eg, 0, none⟩) 1 ec)).toArray) := by unfold Hid; rw [← hW]; exact FR6.out.full (cs' := (acL { ac0 x with es := [enOf c] } (.slice (some ⟨eg, 0, none⟩) 1 ec)).toArray) rfl
              have HB9 : Hid (Below w.heap.size w W9) := by unfold Hid; rw [← hW]; exact Below.sets (by omega) _ _ HB6.out
              have HER : Hid (ERow W9 w.heap.size (.slice (some ⟨eg, 0, none⟩) 1 ec) [enOf c]) := by
                unfold Hid
                rw [← hW]
                refine ERow.low (base := w3.heap.size) ?_ (by omega)
                obtain ⟨h1, h2 | ⟨g, cap, cur, h3, h4, h5, h6⟩⟩ := HER5.out
                · exact ⟨h1, Or.inl h2⟩
                · refine ⟨h1, Or.inr ⟨g, cap, cur, h3, h4, ?_, h6⟩⟩
                  have hgz := (Array.getElem?_eq_some_iff.1 h5).1
                  rw [World.heap_setCells_other _ _ _ _ (by simpa [World.setCell] using hgz) (by omega), Below.heap_setCell _ _ _ _ (by simp only []; omega)]
                  exact h5
              clear hW
              refine hide ?_
              go_wp2
              refine bodyPost_ret (v := .agg (acL { ac0 x with es := [enOf c] } (.slice (some ⟨eg, 0, none⟩) 1 ec)).toArray) (res_act rfl _ _ (w.heap.size + 1 + 1 + 1) 0 (acL { ac0 x with es := [enOf c] } (.slice (some ⟨eg, 0, none⟩) 1 ec)) _ rfl (FR9.out.range rfl) Tryz.underlying47 rfl Tryz.sizeAct) rfl ⟨(.slice (some ⟨eg, 0, none⟩) 1 ec), by rw [HE.out]; rfl, HB9.out, by rw [HE.out]; exact HER.out⟩
          · have HCO : Hid (¬ (x.wa < (P.length : Nat) ∧ ((O = 0 ∧ D = 0) ∨ x.wa + x.ov < (P.length : Nat)))) := fun hq => hq.2.elim HCA.out c3
            have HE : Hid (cntF B x = ac0 x) := by unfold Hid; rw [HCN.out, if_neg HCO.out]
            have HRA := hide (FAd.out.range (l := acL (ac0 x) (.slice none 0 0)) rfl)
            have HTH : Hid (_ : Prop) := FRd.out.there (n := 8) rfl
            go_wp2_with (first
              | (refine wpList_load_mid rfl 47 (.tmp 5) rfl (w.heap.size + 1 + 1) 0 rfl (acL (ac0 x) (.slice none 0 0)) _ HRA.out Tryz.underlying47 rfl Tryz.sizeAct ?_)
              | (refine wpList_store_mid rfl 47 (.tmp 6) (.tmp 70) rfl (w.heap.size + 1 + 1 + 1) 0 (acL (ac0 x) (.slice none 0 0)).toArray rfl rfl HTH.out Tryz.sizeAct (acL_one _) ?_; refine Hid.out ?_))
            generalize hW : World.setCells _ _ _ _ = W9
            have FR9 : Hid (Box W9 (w.heap.size + 1 + 1 + 1) (acL (ac0 x) (.slice none 0 0)).toArray) := by unfold Hid; rw [← hW]; exact FRd.out.full (cs' := (acL (ac0 x) (.slice none 0 0)).toArray) rfl
            have HB9 : Hid (Below w.heap.size w W9) := by unfold Hid; rw [← hW]; exact Below.sets (by omega) _ _ HBd.out
            have HER : Hid (ERow W9 w.heap.size (.slice none 0 0) []) := ⟨rfl, Or.inl ⟨rfl, rfl⟩⟩
            clear hW
            refine hide ?_
            go_wp2
            refine bodyPost_ret (v := .agg (acL (ac0 x) (.slice none 0 0)).toArray) (res_act rfl _ _ (w.heap.size + 1 + 1 + 1) 0 (acL (ac0 x) (.slice none 0 0)) _ rfl (FR9.out.range rfl) Tryz.underlying47 rfl Tryz.sizeAct) rfl ⟨(.slice none 0 0), by rw [HE.out]; rfl, HB9.out, by rw [HE.out]; exact HER.out⟩
        · have HCO : Hid (¬ (x.wa < (P.length : Nat) ∧ ((O = 0 ∧ D = 0) ∨ x.wa + x.ov < (P.length : Nat)))) := fun hq => c1 hq.1
          have HE : Hid (cntF B x = ac0 x) := by unfold Hid; rw [HCN.out, if_neg HCO.out]
          have HRA := hide (FAd.out.range (l := acL (ac0 x) (.slice none 0 0)) rfl)
          have HTH : Hid (_ : Prop) := FRd.out.there (n := 8) rfl
          go_wp2_with (first
            | (refine wpList_load_mid rfl 47 (.tmp 5) rfl (w.heap.size + 1 + 1) 0 rfl (acL (ac0 x) (.slice none 0 0)) _ HRA.out Tryz.underlying47 rfl Tryz.sizeAct ?_)
            | (refine wpList_store_mid rfl 47 (.tmp 6) (.tmp 70) rfl (w.heap.size + 1 + 1 + 1) 0 (acL (ac0 x) (.slice none 0 0)).toArray rfl rfl HTH.out Tryz.sizeAct (acL_one _) ?_; refine Hid.out ?_))
          generalize hW : World.setCells _ _ _ _ = W9
          have FR9 : Hid (Box W9 (w.heap.size + 1 + 1 + 1) (acL (ac0 x) (.slice none 0 0)).toArray) := by unfold Hid; rw [← hW]; exact FRd.out.full (cs' := (acL (ac0 x) (.slice none 0 0)).toArray) rfl
          have HB9 : Hid (Below w.heap.size w W9) := by unfold Hid; rw [← hW]; exact Below.sets (by omega) _ _ HBd.out
          have HER : Hid (ERow W9 w.heap.size (.slice none 0 0) []) := ⟨rfl, Or.inl ⟨rfl, rfl⟩⟩
          clear hW
          refine hide ?_
          go_wp2
          refine bodyPost_ret (v := .agg (acL (ac0 x) (.slice none 0 0)).toArray) (res_act rfl _ _ (w.heap.size + 1 + 1 + 1) 0 (acL (ac0 x) (.slice none 0 0)) _ rfl (FR9.out.range rfl) Tryz.underlying47 rfl Tryz.sizeAct) rfl ⟨(.slice none 0 0), by rw [HE.out]; rfl, HB9.out, by rw [HE.out]; exact HER.out⟩
    · have hOz : ((O : Int) == 0) = false := by simp; omega
      have HCA : Hid (¬ (O = 0 ∧ D = 0)) := fun hq => hO0 hq.1
      clear hO0
      by_cases c1 : x.wa < (P.length : Nat)
      · have vv : IntKind.i64.wrap (x.wa + x.ov) = x.wa + x.ov := by rw [IntWalk.i64_left]; unfold wrap64; omega
        have s6 := FSb.out.cell 6
        simp at s6
        by_cases c3 : x.wa + x.ov < (P.length : Nat)
        · have HCO : Hid (x.wa < (P.length : Nat) ∧ ((O = 0 ∧ D = 0) ∨ x.wa + x.ov < (P.length : Nat))) := ⟨c1, Or.inr c3⟩
          have HFC : Hid (∃ c, fstC B x.im (liveL B x.nm) = some c) := by
            cases hq : liveL B x.nm with
            | nil =>
              have := PN.out
              rw [hq] at this
              simp at this
              exfalso
              rw [this] at c1
              simp at c1
              omega
            | cons a L => exact ⟨_, rfl⟩
          obtain ⟨c, hfc⟩ := HFC.out
          have HFE : Hid (fstE B x.im (getP B.cs P) = [enOf c]) := by unfold Hid fstE; rw [PL.out, hfc]; rfl
          have HE0 : Hid (cntF B x = if mayT B x.nm c.nu then { ac0 x with es := [enOf c] } else ac0 x) := by
            unfold Hid
            rw [HCN.out, if_pos HCO.out, hfc]
          clear hfc
          have p1 := F1b.out.cell
          have sc := FSb.out.cell
          go_wp2_with fail
          clear p1 sc
          refine (l16First_any lo _ _ _ _ _ B x P _ (HK.out.below HBb.out) HROWb.out PM.out (by omega)).mono ?_
          rintro e w4 ⟨ev, rfl, hb4, her⟩
          rw [HFE.out] at her
          have HB4 := hide (bt HBb.out hb4)
          have F14 := hide (F1b.out.on hb4)
          have FS4 := hide (FSb.out.on hb4)
          have FA4 := hide (FAb.out.on hb4)
          have FR4 := hide (FRb.out.on hb4)
          have hz4 := hb4.size
          obtain ⟨eg, ec, rfl, hez, heg, hec⟩ : ∃ g cap, ev = .slice (some ⟨g, 0, none⟩) 1 cap ∧ g < w4.heap.size ∧ w2.heap.size ≤ g ∧ w4.cell? ⟨g, 0, none⟩ = some (.int .i64 c.nu) := by
            rcases her.2 with ⟨-, h0⟩ | ⟨g, cap, cur, rfl, hbg, hh, -, -, hcs, htk⟩
            · cases h0
            · refine ⟨g, cap, rfl, (Array.getElem?_eq_some_iff.1 hh).1, hbg, ?_⟩
              have h1 : (flatV enL [enOf c])[0]? = some (.int .i64 c.nu) := rfl
              rw [← htk, List.getElem?_take] at h1
              simp only [World.cell?, hh]
              rw [← Array.getElem?_toList]
              simpa using h1
          have HERw := hide her
          clear hb4 her
          go_wp2
          go_cut [67] from 60 to 67 (fun v wc => v = .bool (mayT B x.nm c.nu) ∧ Below w4.heap.size w4 wc)
          case first =>
            have xn : Nonempty (In (Up w4)) := ⟨⟨w4, Below.refl _ _⟩⟩
            have xs := fun (Y : In (Up w4)) => in_self Y
            have p0 : ∀ Y : In (Up w4), _ := fun Y => Up.cell Y (F14.out.cell 0)
            have p1 : ∀ Y : In (Up w4), _ := fun Y => Up.cell Y (F14.out.cell 1)
            have p2 : ∀ Y : In (Up w4), _ := fun Y => Up.cell Y (F14.out.cell 2)
            have p3 : ∀ Y : In (Up w4), _ := fun Y => Up.cell Y (F14.out.cell 3)
            have s0 : ∀ Y : In (Up w4), _ := fun Y => Up.cell Y (FS4.out.cell 0)
            have l0 : ∀ Y : In (Up w4), _ := fun Y => Up.cell Y hec
            simp at p0 p1 p2 p3 s0
            refine wp_region_class (Up w4) (by kernel_rfl) (by kernel_rfl) ((Below.refl _ _).drew) ?_
            repeat (go_big_quiet_step (first | (go_at_call 65; rename_i Y; exact (l14MayEnd_any lo _ _ _ B x.nm c.nu _ (HK.out.below (bt HB4.out Y.h)) HV.out).mono fun _ _ h => ⟨h.1, Up.next Y h.2⟩)))
            refine wpQuiet_nil ?_
            intro wn hwn
            obtain ⟨Y, hY⟩ := hwn
            have HWN : Below w4.heap.size w4 wn := by rw [hY]; exact Y.h
            clear hY Y p0 p1 p2 p3 s0 l0 xs xn
            go_wp2
            go_meet
            exact ⟨rfl, HWN⟩
          case rest =>
          revert wc
          intro w5 hcut
          obtain ⟨rfl, hb5⟩ := hcut
          have HB5 := hide (bt HB4.out hb5)
          have FA5 := hide (FA4.out.on hb5)
          have FR5 := hide (FR4.out.on hb5)
          have HER5 := hide (HERw.out.below hb5)
          have hz5 := hb5.size
          clear hb5 HB4 F14 FS4 FA4 FR4 HERw
          cases hm : mayT B x.nm c.nu with
          | false =>
            have HE : Hid (cntF B x = ac0 x) := by unfold Hid; rw [HE0.out, hm]; rfl
            have HRA := hide (FA5.out.range (l := acL (ac0 x) (.slice none 0 0)) rfl)
            have HTH : Hid (_ : Prop) := FR5.out.there (n := 8) rfl
            go_wp2_with (first
              | (refine wpList_load_mid rfl 47 (.tmp 5) rfl (w.heap.size + 1 + 1) 0 rfl (acL (ac0 x) (.slice none 0 0)) _ HRA.out Tryz.underlying47 rfl Tryz.sizeAct ?_)
              | (refine wpList_store_mid rfl 47 (.tmp 6) (.tmp 70) rfl (w.heap.size + 1 + 1 + 1) 0 (acL (ac0 x) (.slice none 0 0)).toArray rfl rfl HTH.out Tryz.sizeAct (acL_one _) ?_; refine Hid.out ?_))
            generalize hW : World.setCells _ _ _ _ = W9
            have FR9 : Hid (Box W9 (w.heap.size + 1 + 1 + 1) (acL (ac0 x) (.slice none 0 0)).toArray) := by unfold Hid; rw [← hW]; exact FR5.out.full (cs' := (acL (ac0 x) (.slice none 0 0)).toArray) rfl
            have HB9 : Hid (Below w.heap.size w W9) := by unfold Hid; rw [← hW]; exact Below.sets (by omega) _ _ HB5.out
            have HER : Hid (ERow W9 w.heap.size (.slice none 0 0) []) := ⟨rfl, Or.inl ⟨rfl, rfl⟩⟩
            clear hW
            refine hide ?_
            go_wp2
            refine bodyPost_ret (v := .agg (acL (ac0 x) (.slice none 0 0)).toArray) (res_act rfl _ _ (w.heap.size + 1 + 1 + 1) 0 (acL (ac0 x) (.slice none 0 0)) _ rfl (FR9.out.range rfl) Tryz.underlying47 rfl Tryz.sizeAct) rfl ⟨(.slice none 0 0), by rw [HE.out]; rfl, HB9.out, by rw [HE.out]; exact HER.out⟩
          | true =>
            have HE : Hid (cntF B x = { ac0 x with es := [enOf c] }) := by unfold Hid; rw [HE0.out, hm]; rfl
            have a6 := FA5.out.cell 6
            have af := FA5.out.free 6
            simp [acL, ac0] at a6
            have FA6 := hide (FA5.out.set (k := 6) (.slice (some ⟨eg, 0, none⟩) 1 ec) (by simp [acL]))
            have FR6 := hide (FR5.out.setFar (p := ⟨w.heap.size + 1 + 1, 6, none⟩) (by simp only []; omega) (.slice (some ⟨eg, 0, none⟩) 1 ec))
            have HB6 := hide (HB5.out.setCell (p := ⟨w.heap.size + 1 + 1, 6, none⟩) (by simp only []; omega) (.slice (some ⟨eg, 0, none⟩) 1 ec))
            have HRA := hide (FA6.out.range (l := acL { ac0 x with es := [enOf c] } (.slice (some ⟨eg, 0, none⟩) 1 ec)) rfl)
            have HTH : Hid ((w5.setCell ⟨w.heap.size + 1 + 1, 6, none⟩ (.slice (some ⟨eg, 0, none⟩) 1 ec)).there (w.heap.size + 1 + 1 + 1) 0 8) := FR6.out.there rfl
            go_wp2_with (first
              | (refine wpList_load_mid rfl 47 (.tmp 5) rfl (w.heap.size + 1 + 1) 0 rfl (acL { ac0 x with es := [enOf c] } (.slice (some ⟨eg, 0, none⟩) 1 ec)) _ HRA.out Tryz.underlying47 rfl Tryz.sizeAct ?_)
              | (refine wpList_store_mid rfl 47 (.tmp 6) (.tmp 70) rfl (w.heap.size + 1 + 1 + 1) 0 (acL { ac0 x with es := [enOf c] } (.slice (some ⟨eg, 0, none⟩) 1 ec)).toArray rfl rfl HTH.out Tryz.sizeAct (acL_one _) ?_; refine Hid.out ?_))
            generalize hW : World.setCells _ _ _ _ = W9
            have FR9 : Hid (Box W9 (w.heap.size + 1 + 1 + 1) (acL { ac0 x with es := [enOf c] } (.slice (some ⟨eg, 0, none⟩) 1 ec)).toArray) := by unfold Hid; rw [← hW]; exact FR6.out.full (cs' := (acL { ac0 x with es := [enOf c] } (.slice (some ⟨eg, 0, none⟩) 1 ec)).toArray) rfl
            have HB9 : Hid (Below w.heap.size w W9) := by unfold Hid; rw [← hW]; exact Below.sets (by omega) _ _ HB6.out
            have HER : Hid (ERow W9 w.heap.size (.slice (some ⟨eg, 0, none⟩) 1 ec) [enOf c]) := by
              unfold Hid
              rw [← hW]
              refine ERow.low (base := w2.heap.size) ?_ (by omega)
              obtain ⟨h1, h2 | ⟨g, cap, cur, h3, h4, h5, h6⟩⟩ := HER5.out
              · exact ⟨h1, Or.inl h2⟩
              · refine ⟨h1, Or.inr ⟨g, cap, cur, h3, h4, ?_, h6⟩⟩
                have hgz := (Array.getElem?_eq_some_iff.1 h5).1
                rw [World.heap_setCells_other _ _ _ _ (by simpa [World.setCell] using hgz) (by omega), Below.heap_setCell _ _ _ _ (by simp only []; omega)]
                exact h5
            clear hW
            refine hide ?_
            go_wp2
            refine bodyPost_ret (v := .agg (acL { ac0 x with es := [enOf c] } (.slice (some ⟨eg, 0, none⟩) 1 ec)).toArray) (res_act rfl _ _ (w.heap.size + 1 + 1 + 1) 0 (acL { ac0 x with es := [enOf c] } (.slice (some ⟨eg, 0, none⟩) 1 ec)) _ rfl (FR9.out.range rfl) Tryz.underlying47 rfl Tryz.sizeAct) rfl ⟨(.slice (some ⟨eg, 0, none⟩) 1 ec), by rw [HE.out]; rfl, HB9.out, by rw [HE.out]; exact HER.out⟩
        · have HCO : Hid (¬ (x.wa < (P.length : Nat) ∧ ((O = 0 ∧ D = 0) ∨ x.wa + x.ov < (P.length : Nat)))) := fun hq => hq.2.elim HCA.out c3
          have HE : Hid (cntF B x = ac0 x) := by unfold Hid; rw [HCN.out, if_neg HCO.out]
          have HRA := hide (FAb.out.range (l := acL (ac0 x) (.slice none 0 0)) rfl)
          have HTH : Hid (_ : Prop) := FRb.out.there (n := 8) rfl
          go_wp2_with (first
            | (refine wpList_load_mid rfl 47 (.tmp 5) rfl (w.heap.size + 1 + 1) 0 rfl (acL (ac0 x) (.slice none 0 0)) _ HRA.out Tryz.underlying47 rfl Tryz.sizeAct ?_)
            | (refine wpList_store_mid rfl 47 (.tmp 6) (.tmp 70) rfl (w.heap.size + 1 + 1 + 1) 0 (acL (ac0 x) (.slice none 0 0)).toArray rfl rfl HTH.out Tryz.sizeAct (acL_one _) ?_; refine Hid.out ?_))
          generalize hW : World.setCells _ _ _ _ = W9
          have FR9 : Hid (Box W9 (w.heap.size + 1 + 1 + 1) (acL (ac0 x) (.slice none 0 0)).toArray) := by unfold Hid; rw [← hW]; exact FRb.out.full (cs' := (acL (ac0 x) (.slice none 0 0)).toArray) rfl
          have HB9 : Hid (Below w.heap.size w W9) := by unfold Hid; rw [← hW]; exact Below.sets (by omega) _ _ HBb.out
          have HER : Hid (ERow W9 w.heap.size (.slice none 0 0) []) := ⟨rfl, Or.inl ⟨rfl, rfl⟩⟩
          clear hW
          refine hide ?_
          go_wp2
          refine bodyPost_ret (v := .agg (acL (ac0 x) (.slice none 0 0)).toArray) (res_act rfl _ _ (w.heap.size + 1 + 1 + 1) 0 (acL (ac0 x) (.slice none 0 0)) _ rfl (FR9.out.range rfl) Tryz.underlying47 rfl Tryz.sizeAct) rfl ⟨(.slice none 0 0), by rw [HE.out]; rfl, HB9.out, by rw [HE.out]; exact HER.out⟩
      · have HCO : Hid (¬ (x.wa < (P.length : Nat) ∧ ((O = 0 ∧ D = 0) ∨ x.wa + x.ov < (P.length : Nat)))) := fun hq => c1 hq.1
        have HE : Hid (cntF B x = ac0 x) := by unfold Hid; rw [HCN.out, if_neg HCO.out]
        have HRA := hide (FAb.out.range (l := acL (ac0 x) (.slice none 0 0)) rfl)
        have HTH : Hid (_ : Prop) := FRb.out.there (n := 8) rfl
        go_wp2_with (first
          | (refine wpList_load_mid rfl 47 (.tmp 5) rfl (w.heap.size + 1 + 1) 0 rfl (acL (ac0 x) (.slice none 0 0)) _ HRA.out Tryz.underlying47 rfl Tryz.sizeAct ?_)
          | (refine wpList_store_mid rfl 47 (.tmp 6) (.tmp 70) rfl (w.heap.size + 1 + 1 + 1) 0 (acL (ac0 x) (.slice none 0 0)).toArray rfl rfl HTH.out Tryz.sizeAct (acL_one _) ?_; refine Hid.out ?_))
        generalize hW : World.setCells _ _ _ _ = W9
        have FR9 : Hid (Box W9 (w.heap.size + 1 + 1 + 1) (acL (ac0 x) (.slice none 0 0)).toArray) := by unfold Hid; rw [← hW]; exact FRb.out.full (cs' := (acL (ac0 x) (.slice none 0 0)).toArray) rfl
        have HB9 : Hid (Below w.heap.size w W9) := by unfold Hid; rw [← hW]; exact Below.sets (by omega) _ _ HBb.out
        have HER : Hid (ERow W9 w.heap.size (.slice none 0 0) []) := ⟨rfl, Or.inl ⟨rfl, rfl⟩⟩
        clear hW
        refine hide ?_
        go_wp2
        refine bodyPost_ret (v := .agg (acL (ac0 x) (.slice none 0 0)).toArray) (res_act rfl _ _ (w.heap.size + 1 + 1 + 1) 0 (acL (ac0 x) (.slice none 0 0)) _ rfl (FR9.out.range rfl) Tryz.underlying47 rfl Tryz.sizeAct) rfl ⟨(.slice none 0 0), by rw [HE.out]; rfl, HB9.out, by rw [HE.out]; exact HER.out⟩
end Go.Proofs.YtpdlcccnlciecaaGreat
