import Derived.Test.YtoklnkojacdciaaG40
import Derived.Test.YtoklnkojacdciaaG48
namespace Go.Proofs.Ytoklnkojacdciaa
open Go.RowKit Go.Deep

/-! what RecAgree says -/
def fixT (F : List Rx) (ix : Int) : Option ByteArray := (F.find? fun x => decide (x.ix = ix)).map (·.tx)
def okAt (F : List Rx) (ix : Int) (t : ByteArray) : Bool := match fixT F ix with
  | some u => decide (u = t)
  | none => false
def bkOne (F : List Rx) (L : List ByteArray) (k : Nat) : Bool := match L[k]? with
  | some t => okAt F ((k : Int) + 1) t
  | none => true
def bkB (F : List Rx) (L : List ByteArray) : Bool := (List.range L.length).all (bkOne F L)
def bksOne (F : List Rx) (R : List Rr) (i : Nat) : Bool := match R[i]? with
  | some r => bkB F (bookL r)
  | none => true
def bksB (F : List Rx) (R : List Rr) : Bool := (List.range R.length).all (bksOne F R)
def mjOne (F : List Rx) (R : List Rr) (i : Nat) : Bool := match majR R ((i : Int) + 1) with
  | some t => okAt F ((i : Int) + 1) t
  | none => true
def mjB (F : List Rx) (R : List Rr) : Bool := (List.range 120).all (mjOne F R)
def agreeB (U : Wd) : Bool := wldB U && (bksB U.fx U.rs && mjB U.fx U.rs)
theorem bkOne_at {F : List Rx} {L : List ByteArray} {k : Nat} (h : k < L.length) : bkOne F L k = okAt F ((k : Int) + 1) L[k] := by
  unfold bkOne; rw [List.getElem?_eq_getElem h]
theorem bksOne_at {F : List Rx} {R : List Rr} {i : Nat} (h : i < R.length) : bksOne F R i = bkB F (bookL R[i]) := by
  unfold bksOne; rw [List.getElem?_eq_getElem h]
theorem fixT_at {F : List Rx} {ix : Int} {k : Nat} (hk : k < F.length) (h : F[k].ix = ix) (hb : ∀ j (hj : j < F.length), j < k → F[j].ix ≠ ix) : fixT F ix = some F[k].tx := by
  unfold fixT
  have : F.find? (fun x => decide (x.ix = ix)) = some F[k] := by
    rw [List.find?_eq_some_iff_getElem]
    exact ⟨by simpa using h, k, hk, rfl, fun j hj => by simpa using hb j (by omega) hj⟩
  rw [this]; rfl
theorem fixT_no {F : List Rx} {ix : Int} (hb : ∀ j (hj : j < F.length), F[j].ix ≠ ix) : fixT F ix = none := by
  unfold fixT
  rw [List.find?_eq_none.2 (fun x hx => by obtain ⟨j, hj, rfl⟩ := List.getElem_of_mem hx; simpa using hb j hj)]
  rfl
theorem okAt_two {F : List Rx} {ix : Int} {t u : ByteArray} {b : Bool} (h : majV (fixT F ix) = #[.string u, .bool b]) : okAt F ix t = (b && decide (u = t)) := by
  unfold okAt
  cases e : fixT F ix with
  | none =>
    rw [e] at h
    unfold majV at h
    simp at h
    rw [h.2]; rfl
  | some v =>
    rw [e] at h
    unfold majV at h
    simp at h
    obtain ⟨h1, h2⟩ := h
    subst h1 h2
    simp

set_option maxHeartbeats 4000000 in
theorem fixS_any (lo : Nat) (cs : List Value) (U : Wd) (ix : Int) (w : World) (h : WdC lo w cs U) :
    Calls Try.prog 47 #[.agg cs.toArray, .int .i64 ix] w fun e w' => e = .returned (.tuple (majV (fixT U.fx ix))) ∧ Below w.heap.size w w' := by
  obtain ⟨a0, k0, a1, k1, a2, k2, rfl, h⟩ := h
  show Calls Try.prog 47 #[.agg #[.slice a0 U.rs.length k0, .slice a1 U.fl.length k1, .slice a2 U.fx.length k2], .int .i64 ix] w _
  have HL := hide h.l2
  have hm := h.l2.max
  unfold maxLen at hm
  clear h
  go_enter Try.func47, Try.ntmps47
  go_upto_region 2 with fail
  obtain ⟨Wa, hWa, HB, FX⟩ : ∃ Wa, Wa = w.alloc (.cells #[.slice a0 U.rs.length k0, .slice a1 U.fl.length k1, .slice a2 U.fx.length k2] 26) ∧ Hid (Below w.heap.size w Wa) ∧ Hid (Box Wa w.heap.size #[.slice a0 U.rs.length k0, .slice a1 U.fl.length k1, .slice a2 U.fx.length k2]) := ⟨_, rfl, one_al _ _, Box.new _ _ _ _ rfl⟩
  rw [← hWa]
  clear hWa
  replace HL := hide (HL.out.below HB.out)
  have z2 : Wa.cell? ⟨w.heap.size, 2, none⟩ = some (.slice a2 U.fx.length k2) := FX.out.cell 2
  go_loop [6] (fun i => ∃ k : Nat, i = .int .i64 k ∧ k ≤ U.fx.length ∧ ∀ j (hj : j < U.fx.length), j < k → U.fx[j].ix ≠ ix) (fun i => U.fx.length - (intOf i).toNat)
  case atStart => exact ⟨0, rfl, by omega, fun j _ h => by omega⟩
  case round =>
    obtain ⟨k, rfl, hk, hall⟩ := hrel
    have HAL := hide hall
    clear hall
    by_cases hlt : k < U.fx.length
    · obtain ⟨b, off, rfl, hbw, -, hc⟩ := HL.out.full' (by omega)
      obtain ⟨-, hcz⟩ := hc k hlt
      have s0 : Wa.cell? ⟨b, off + k * 2, none⟩ = some (.int .i64 U.fx[k].ix) := hcz.c0
      have s1 : Wa.cell? ⟨b, off + k * 2 + 1, none⟩ = some (.string U.fx[k].tx) := hcz.c1
      obtain ⟨x, hx⟩ : ∃ x, x = U.fx[k] := ⟨_, rfl⟩
      have HX := hide hx
      rw [← hx] at s0 s1
      have i0 : (0 : Int) ≤ (k : Int) := by omega
      have i1 : (k : Int) < (U.fx.length : Int) := by omega
      clear hc hcz hx
      by_cases q : x.ix = ix
      · have HE : Hid (fixT U.fx ix = some x.tx) := by unfold Hid; rw [HX.out]; exact fixT_at hlt (by rw [← HX.out]; exact q) HAL.out
        go_wp2
        refine bodyPost_ret (v := .tuple #[.string x.tx, .bool true]) (by simp [results, Try.results47, go_sem]) rfl ⟨by rw [HE.out]; rfl, HB.out⟩
      · have HQ := hide q
        go_wp2
        go_round
        case rel => exact ⟨k + 1, by go_num, by omega, fun j hj hjk => by
                      by_cases e : j = k
                      · subst e; rw [← HX.out]; exact HQ.out
                      · exact HAL.out j hj (by omega)⟩
        case measure => simp [intOf]; omega
    · have HE : Hid (fixT U.fx ix = none) := fixT_no (fun j hj => HAL.out j hj (by omega))
      go_wp2
      refine bodyPost_ret (v := .tuple #[.string ⟨#[]⟩, .bool false]) (by simp [results, Try.results47, go_sem]) rfl ⟨by rw [HE.out]; rfl, HB.out⟩

set_option maxRecDepth 20000 in
set_option maxHeartbeats 8000000 in
theorem specAgree_any (lo : Nat) (cs : List Value) (U : Wd) (w : World) (h : WdC lo w cs U) (hn : WdSmall U) :
    Calls Try.prog 18 #[.agg cs.toArray] w fun e w' => e = .returned (.bool (agreeB U)) ∧ Below w.heap.size w w' := by
  have HC := hide h
  have HN := hide hn
  obtain ⟨a0, k0, a1, k1, a2, k2, rfl, hl⟩ := h
  have HL := hide hl.l0
  have hm := hl.l0.max
  unfold maxLen at hm
  show Calls Try.prog 18 #[.agg #[.slice a0 U.rs.length k0, .slice a1 U.fl.length k1, .slice a2 U.fx.length k2]] w _
  clear hn hl
  have HE0 : Hid (agreeB U = (wldB U && (bksB U.fx U.rs && mjB U.fx U.rs))) := rfl
  go_enter Try.func18, Try.ntmps18
  go_wp2_with fail
  obtain ⟨Wa, hWa, HB, FX⟩ : ∃ Wa, Wa = w.alloc (.cells #[.slice a0 U.rs.length k0, .slice a1 U.fl.length k1, .slice a2 U.fx.length k2] 26) ∧ Hid (Below w.heap.size w Wa) ∧ Hid (Box Wa w.heap.size #[.slice a0 U.rs.length k0, .slice a1 U.fl.length k1, .slice a2 U.fx.length k2]) := ⟨_, rfl, one_al _ _, Box.new _ _ _ _ rfl⟩
  rw [← hWa]
  clear hWa
  refine (specWorldR_any lo _ U _ (HC.out.below HB.out) HN.out).mono ?_
  rintro e w1 ⟨rfl, hb1⟩
  replace HB := hide (bt HB.out hb1)
  replace FX := hide (FX.out.on hb1)
  clear hb1
  cases q : wldB U with
  | false =>
    have HNo : Hid (agreeB U = false) := by unfold Hid; rw [HE0.out, q]; rfl
    go_wp2
    go_ret
    exact ⟨ret_bool HNo.out.symm, HB.out⟩
  | true =>
  have HSO := hide (safe_ok q)
  replace HE0 : Hid (agreeB U = (bksB U.fx U.rs && mjB U.fx U.rs)) := by unfold Hid; rw [HE0.out, q]; rfl
  clear q
  go_wp2
  go_loopw [3] (fun i wr => ∃ k : Nat, i = .int .i64 k ∧ k ≤ U.rs.length ∧ Below w1.heap.size w1 wr ∧ ∀ j, j < k → bksOne U.fx U.rs j = true) (fun i _ => U.rs.length - (intOf i).toNat)
  case atStart => exact ⟨0, rfl, by omega, Below.refl _ _, fun j h => by omega⟩
  case round =>
    obtain ⟨k, rfl, hk, hb, hall⟩ := hrel
    have HAL := hide hall
    have HBr := hide hb
    clear hall hb
    have z0 : wr.cell? ⟨w.heap.size, 0, none⟩ = some (.slice a0 U.rs.length k0) := (FX.out.on HBr.out).cell 0
    by_cases hlt : k < U.rs.length
    · obtain ⟨b, off, rfl, hbw, -, hc⟩ := (HL.out.below (bt HB.out HBr.out)).full' (by omega)
      obtain ⟨cs, hr, hx⟩ := hc k hlt
      have HDK : Hid (bksOne U.fx U.rs k = bkB U.fx (bookL U.rs[k])) := bksOne_at hlt
      have HSX : Hid (RrSmall U.rs[k]) := HN.out.1.2 k hlt
      obtain ⟨x, hxx⟩ : ∃ x, x = U.rs[k] := ⟨_, rfl⟩
      rw [← hxx] at hx HDK HSX
      have HX := hide (hx.mono (Nat.zero_le lo))
      have HR := hide hr
      have HZ : Hid ((Try.prog.info? 51).map (·.size) = some cs.length) := by unfold Hid; rw [hx.len]; exact Rr_sizeI
      have i0 : (0 : Int) ≤ (k : Int) := by omega
      have i1 : (k : Int) < (U.rs.length : Int) := by omega
      clear hc hxx hr hx
      go_wp2_with (with_reducible refine wpList_load_mid (by with_reducible rfl) 51 (.tmp 26) (by with_reducible rfl) b (off + k * 18) (by with_unfolding_all rfl) cs _ HR.out Try.underlying51 (by with_unfolding_all rfl) HZ.out ?_)
      refine (specBook_any _ x _ HX.out HSX.out).mono ?_
      rintro e wb ⟨vb, rfl, hbb, hbk⟩
      have HBK := hide hbk
      have hbm := hbk.max
      unfold maxLen at hbm
      obtain ⟨ab, cb, rfl⟩ := hbk.form
      have HBb : Hid (Below w1.heap.size w1 wb) := bt HBr.out hbb
      obtain ⟨BL, hBL⟩ : ∃ BL, BL = bookL x := ⟨_, rfl⟩
      rw [← hBL] at HBK HDK hbm ⊢
      clear hbb hbk HX HR HZ HSX hBL z0 HBr
      go_wp2
      go_loopw [5] (fun i wr => ∃ t : Nat, i = .int .i64 t ∧ t ≤ BL.length ∧ Below wb.heap.size wb wr ∧ ∀ j, j < t → bkOne U.fx BL j = true) (fun i _ => BL.length - (intOf i).toNat)
      case atStart => exact ⟨0, rfl, by omega, Below.refl _ _, fun j h => by omega⟩
      case round =>
        obtain ⟨t, rfl, ht, hb, hall⟩ := hrel
        have HAL2 := hide hall
        have HB2 := hide hb
        have HB3 : Hid (Below w1.heap.size w1 wr) := bt HBb.out hb
        clear hall hb
        by_cases hlt2 : t < BL.length
        · have g0 := (FX.out.on HB3.out).cell
          have HD2 : Hid (bkOne U.fx BL t = okAt U.fx ((t : Int) + 1) BL[t]) := bkOne_at hlt2
          go_wp2_with fail
          clear g0
          refine (fixS_any lo _ U _ _ (HC.out.below (bt HB.out HB3.out))).mono ?_
          rintro e w2 ⟨rfl, hb2⟩
          obtain ⟨u, o, hv⟩ := majV_two (fixT U.fx ((t : Int) + 1))
          have HV := hide (okAt_two (t := BL[t]) hv)
          rw [hv]
          have HB4 : Hid (Below w1.heap.size w1 w2) := bt HB3.out hb2
          have HB5 : Hid (Below wb.heap.size wb w2) := bt HB2.out hb2
          obtain ⟨g, og, rfl, hgw, -, hcg⟩ := HBK.out.full' (by omega)
          have s0 : w2.cell? ⟨g, og + t, none⟩ = some (.string BL[t]) := by rw [HB5.out.cell hgw]; exact (hcg t hlt2).2
          obtain ⟨y, hy⟩ : ∃ y, y = BL[t] := ⟨_, rfl⟩
          rw [← hy] at s0 HV HD2
          have i2 : (0 : Int) ≤ (t : Int) := by omega
          have i3 : (t : Int) < (BL.length : Int) := by omega
          clear hb2 hv hcg hy
          cases o with
          | false =>
            have HNo : Hid (agreeB U = false) := by unfold Hid; rw [HE0.out, show bksB U.fx U.rs = false from range_not hlt (by rw [HDK.out]; exact range_not hlt2 (by rw [HD2.out, HV.out]; rfl))]; rfl
            go_wp2
            go_ret
            exact ⟨ret_bool HNo.out.symm, bt HB.out HB4.out⟩
          | true =>
            by_cases qe : u = y
            · have HT : Hid (bkOne U.fx BL t = true) := by unfold Hid; rw [HD2.out, HV.out, qe]; simp
              subst qe
              have hrf := bytes_refl u
              go_wp2
              go_roundw
              case rel => exact ⟨t + 1, by go_num, by omega, HB5.out, fun j hj => by
                            by_cases e : j = t
                            · rw [e]; exact HT.out
                            · exact HAL2.out j (by omega)⟩
              case measure => simp [intOf]; omega
            · have HNo : Hid (agreeB U = false) := by unfold Hid; rw [HE0.out, show bksB U.fx U.rs = false from range_not hlt (by rw [HDK.out]; exact range_not hlt2 (by rw [HD2.out, HV.out]; simp [qe]))]; rfl
              have hne : (u.toList == y.toList) = false := bytes_ne.2 qe
              go_wp2
              go_ret
              exact ⟨ret_bool HNo.out.symm, bt HB.out HB4.out⟩
        · have HT : Hid (bksOne U.fx U.rs k = true) := by unfold Hid; rw [HDK.out]; exact range_all (fun i hi => HAL2.out i (by omega))
          go_wp2
          go_roundw
          case rel => exact ⟨k + 1, by go_num, by omega, HB3.out, fun j hj => by
                        by_cases e : j = k
                        · rw [e]; exact HT.out
                        · exact HAL.out j (by omega)⟩
          case measure => simp [intOf]; omega
    · have HBS : Hid (bksB U.fx U.rs = true) := range_all (fun i hi => HAL.out i (by omega))
      replace HE0 : Hid (agreeB U = mjB U.fx U.rs) := by unfold Hid; rw [HE0.out, HBS.out]; rfl
      clear HAL
      go_wp2
      go_loopw [8] (fun i wr => ∃ t : Nat, i = .int .i64 ((t : Int) + 1) ∧ t ≤ 120 ∧ Below w1.heap.size w1 wr ∧ ∀ j, j < t → mjOne U.fx U.rs j = true) (fun i _ => 121 - (intOf i).toNat)
      case atStart => exact ⟨0, rfl, by omega, HBr.out, fun j h => by omega⟩
      case round =>
        clear HBr z0
        obtain ⟨t, rfl, ht, hb, hall⟩ := hrel
        have HAL := hide hall
        have HBr := hide hb
        clear hall hb
        by_cases hlt2 : t < 120
        · have g0 := (FX.out.on HBr.out).cell
          have hle : decide ((t : Int) + 1 ≤ 120) = true := by simp; omega
          go_wp2_with fail
          clear g0
          refine (majS_any lo _ U _ _ (HC.out.below (bt HB.out HBr.out)) HSO.out).mono ?_
          rintro e w2 ⟨rfl, hb2⟩
          obtain ⟨mt, mo, hmv⟩ := majV_two (majR U.rs ((t : Int) + 1))
          have HMV := hide hmv
          rw [hmv]
          replace HBr := hide (bt HBr.out hb2)
          have g0 := (FX.out.on HBr.out).cell
          clear hb2 hmv
          go_wp2_with fail
          clear g0
          refine (fixS_any lo _ U _ _ (HC.out.below (bt HB.out HBr.out))).mono ?_
          rintro e w3 ⟨rfl, hb3⟩
          obtain ⟨u, o, hv⟩ := majV_two (fixT U.fx ((t : Int) + 1))
          have HV := hide (okAt_two (t := mt) hv)
          rw [hv]
          replace HBr := hide (bt HBr.out hb3)
          have HD2 : Hid (mjOne U.fx U.rs t = (!mo || okAt U.fx ((t : Int) + 1) mt)) := by
            unfold Hid mjOne
            have h := HMV.out
            unfold majV at h
            cases em : majR U.rs ((t : Int) + 1) with
            | none => rw [em] at h; simp at h; rw [h.2]; rfl
            | some t' => rw [em] at h; simp at h; obtain ⟨h1, h2⟩ := h; subst h1 h2; rfl
          clear hb3 hv HMV
          have HRD : Hid (mjOne U.fx U.rs t = true → ∃ k : Nat, (.int .i64 ((t : Int) + 1 + 1) : Value) = .int .i64 ((k : Int) + 1) ∧ k ≤ 120 ∧ Below w1.heap.size w1 w3 ∧ ∀ j, j < k → mjOne U.fx U.rs j = true) := fun hT => ⟨t + 1, by simp, by omega, HBr.out, fun j hj => by
            by_cases e : j = t
            · rw [e]; exact hT
            · exact HAL.out j (by omega)⟩
          have HNo : Hid (mjOne U.fx U.rs t = false → agreeB U = false) := fun h => by rw [HE0.out]; exact range_not hlt2 h
          clear HAL
          cases mo with
          | false =>
            have HT := hide (HRD.out (by rw [HD2.out]; rfl))
            go_wp2
            go_roundw
            case rel => exact HT.out
            case measure => simp [intOf]; omega
          | true =>
            cases o with
            | false =>
              have HF := hide (HNo.out (by rw [HD2.out, HV.out]; rfl))
              go_wp2
              go_ret
              exact ⟨ret_bool HF.out.symm, bt HB.out HBr.out⟩
            | true =>
              by_cases qe : u = mt
              · have HT := hide (HRD.out (by rw [HD2.out, HV.out, qe]; simp))
                subst qe
                have hrf := bytes_refl u
                go_wp2
                go_roundw
                case rel => exact HT.out
                case measure => simp [intOf]; omega
              · have HF := hide (HNo.out (by rw [HD2.out, HV.out]; simp [qe]))
                have hne : (u.toList == mt.toList) = false := bytes_ne.2 qe
                go_wp2
                go_ret
                exact ⟨ret_bool HF.out.symm, bt HB.out HBr.out⟩
        · have HE1 : Hid (agreeB U = true) := by unfold Hid; rw [HE0.out]; exact range_all (fun i hi => HAL.out i (by omega))
          have hle : decide ((t : Int) + 1 ≤ 120) = false := by simp; omega
          go_wp2
          go_ret
          exact ⟨ret_bool HE1.out.symm, bt HB.out HBr.out⟩
end Go.Proofs.Ytoklnkojacdciaa
