import Derived.Test.YthfdfdlojfdckaaGreatVHB
import Derived.Test.YthfdfdlojfdckaaGreatVMM
import Derived.Test.YthfdfdlojfdckaaGreatVGG
import Derived.Test.YthfdfdlojfdckaaGreatVA1
import Derived.Test.YthfdfdlojfdckaaGreatVP1
import Derived.Test.YthfdfdlojfdckaaGreatVBOG
import Derived.Test.YthfdfdlojfdckaaGreatVBBL
import Derived.Test.YthfdfdlojfdckaaGreatVDA
import Derived.Test.YthfdfdlojfdckaaGreatVM5R
namespace Go.Proofs.YthfdfdlojfdckaaGreat
open Go.RowKit Go.Deep Go.Maps

theorem StrsAt.max' {w : World} {v : Value} {L : List ByteArray} (h : StrsAt w v L) : L.length ≤ maxLen := by
  rcases h with ⟨_, _, _, rfl⟩ | ⟨b, off, cap, _, _, h3, _⟩
  · exact Nat.zero_le _
  · exact h3

set_option maxHeartbeats 1000000 in
theorem slEqual_any (v v' : Value) (A C : List ByteArray) (w : World) (hA : StrsAt w v A) (hC : StrsAt w v' C) :
    Calls Tryz.prog 185 #[v, v'] w fun e w' => e = .returned (.bool (decide (A = C))) ∧ Below w.heap.size w w' := by
  have HA := hide hA
  have HC := hide hC
  obtain ⟨a, cap, rfl⟩ := hA.form'
  obtain ⟨c, ccap, rfl⟩ := hC.form'
  have hm := hA.max'
  unfold maxLen at hm
  clear hA hC
  by_cases hl : A.length = C.length
  case neg =>
    have HE : Hid (decide (A = C) = false) := decide_eq_false (fun e => hl (by rw [e]))
    have hne : ((A.length : Int) != (C.length : Int)) = true := by simp; omega
    go_enter Tryz.func185, Tryz.ntmps185
    go_wp2
    go_ret
    exact ⟨ret_bool HE.out.symm, Below.refl _ _⟩
  have hne : ((A.length : Int) != (C.length : Int)) = false := by rw [hl]; simp
  have HLEN := hide hl
  clear hl
  go_enter Tryz.func185, Tryz.ntmps185
  go_wp2
  go_loopw [13] (fun i wr => ∃ k : Nat, i = .int .i64 k ∧ k ≤ A.length ∧ Below w.heap.size w wr ∧ ∀ j (h : j < A.length) (h' : j < C.length), j < k → A[j] = C[j]) (fun i _ => A.length - (intOf i).toNat)
  case atStart => exact ⟨0, rfl, Nat.zero_le _, Below.refl _ _, fun j _ _ h => by omega⟩
  case round =>
    obtain ⟨k, rfl, hk, hb, hall⟩ := hrel
    have HB := hide hb
    have HL := hide hall
    clear hb hall
    by_cases hlt : k < A.length
    · have hlc : k < C.length := by have := HLEN.out; omega
      obtain ⟨ab, aoff, rfl, hab, hac, -⟩ := HA.out.spread (by omega)
      obtain ⟨cb, coff, rfl, hcb, hcc, -⟩ := HC.out.spread (by omega)
      have ca : wr.cell? ⟨ab, aoff + k, none⟩ = some (.string A[k]) := (HB.out.cell (p := ⟨ab, aoff + k, none⟩) hab).trans (hac k hlt)
      have cc : wr.cell? ⟨cb, coff + k, none⟩ = some (.string C[k]) := (HB.out.cell (p := ⟨cb, coff + k, none⟩) hcb).trans (hcc k hlc)
      have hkc : (k : Int) < (C.length : Int) := by omega
      clear hac hcc
      cases hq : (A[k].toList == C[k].toList) with
      | true =>
        have HT : Hid (A[k] = C[k]) := bytes_eq.1 hq
        go_wp2
        go_quiet (fail)
        go_wp2
        go_roundw
        case rel => exact ⟨k + 1, by go_num, by omega, below_drewN HB.out _, fun j hj hj' hjk => by
                      by_cases e : j = k
                      · subst e; exact HT.out
                      · exact HL.out j hj hj' (by omega)⟩
        case measure => simp [intOf]; omega
      | false =>
        have HN : Hid (decide (A = C) = false) := decide_eq_false (fun e => bytes_ne.1 hq (by simp [e]))
        go_wp2
        go_quiet (fail)
        go_wp2
        go_ret
        exact ⟨ret_bool HN.out.symm, below_drewN HB.out _⟩
    · have HT : Hid (decide (A = C) = true) := decide_eq_true (List.ext_getElem HLEN.out (fun i h1 h2 => HL.out i h1 h2 (by omega)))
      go_wp2
      go_ret
      exact ⟨ret_bool HT.out.symm, HB.out⟩

set_option maxHeartbeats 1000000 in
theorem sameTexts_any (v v' : Value) (A C : List ByteArray) (w : World) (hA : StrsAt w v A) (hC : StrsAt w v' C) :
    Calls Tryz.prog 106 #[v, v'] w fun e w' => e = .returned (.bool (decide (A = C))) ∧ Below w.heap.size w w' := by
  have HA := hide hA
  have HC := hide hC
  obtain ⟨a, cap, rfl⟩ := hA.form'
  obtain ⟨c, ccap, rfl⟩ := hC.form'
  have hm := hA.max'
  unfold maxLen at hm
  clear hA hC
  by_cases hl : A.length = C.length
  case neg =>
    have HE : Hid (decide (A = C) = false) := decide_eq_false (fun e => hl (by rw [e]))
    have hne : ((A.length : Int) != (C.length : Int)) = true := by simp; omega
    go_enter Tryz.func106, Tryz.ntmps106
    go_wp2
    go_ret
    exact ⟨ret_bool HE.out.symm, Below.refl _ _⟩
  have hne : ((A.length : Int) != (C.length : Int)) = false := by rw [hl]; simp
  have HLEN := hide hl
  clear hl
  go_enter Tryz.func106, Tryz.ntmps106
  go_wp2
  go_loopw [5] (fun i wr => ∃ k : Nat, i = .int .i64 k ∧ k ≤ A.length ∧ Below w.heap.size w wr ∧ ∀ j (h : j < A.length) (h' : j < C.length), j < k → A[j] = C[j]) (fun i _ => A.length - (intOf i).toNat)
  case atStart => exact ⟨0, rfl, Nat.zero_le _, Below.refl _ _, fun j _ _ h => by omega⟩
  case round =>
    obtain ⟨k, rfl, hk, hb, hall⟩ := hrel
    have HB := hide hb
    have HL := hide hall
    clear hb hall
    by_cases hlt : k < A.length
    · have hlc : k < C.length := by have := HLEN.out; omega
      obtain ⟨ab, aoff, rfl, hab, hac, -⟩ := HA.out.spread (by omega)
      obtain ⟨cb, coff, rfl, hcb, hcc, -⟩ := HC.out.spread (by omega)
      have ca : wr.cell? ⟨ab, aoff + k, none⟩ = some (.string A[k]) := (HB.out.cell (p := ⟨ab, aoff + k, none⟩) hab).trans (hac k hlt)
      have cc : wr.cell? ⟨cb, coff + k, none⟩ = some (.string C[k]) := (HB.out.cell (p := ⟨cb, coff + k, none⟩) hcb).trans (hcc k hlc)
      have hkc : (k : Int) < (C.length : Int) := by omega
      clear hac hcc
      cases hq : (A[k].toList == C[k].toList) with
      | true =>
        have HT : Hid (A[k] = C[k]) := bytes_eq.1 hq
        go_wp2
        go_quiet (fail)
        go_wp2
        go_roundw
        case rel => exact ⟨k + 1, by go_num, by omega, below_drewN HB.out _, fun j hj hj' hjk => by
                      by_cases e : j = k
                      · subst e; exact HT.out
                      · exact HL.out j hj hj' (by omega)⟩
        case measure => simp [intOf]; omega
      | false =>
        have HN : Hid (decide (A = C) = false) := decide_eq_false (fun e => bytes_ne.1 hq (by simp [e]))
        go_wp2
        go_quiet (fail)
        go_wp2
        go_ret
        exact ⟨ret_bool HN.out.symm, below_drewN HB.out _⟩
    · have HT : Hid (decide (A = C) = true) := decide_eq_true (List.ext_getElem HLEN.out (fun i h1 h2 => HL.out i h1 h2 (by omega)))
      go_wp2
      go_ret
      exact ⟨ret_bool HT.out.symm, HB.out⟩

/-- is it the object of a kind and a name? -/
def obIs (k n : ByteArray) (x : Ob) : Bool := x.kd.toList == k.toList && x.nm.toList == n.toList
def obP (Os : List Ob) (k n : ByteArray) : Int := if Os.findIdx (obIs k n) < Os.length then (Os.findIdx (obIs k n) : Int) else -1
theorem obP_yes {Os : List Ob} {k n : ByteArray} {i : Nat} (hi : i < Os.length) (h : obIs k n Os[i] = true) (hall : ∀ j (h : j < Os.length), j < i → obIs k n Os[j] = false) : obP Os k n = i := by
  have e : Os.findIdx (obIs k n) = i := by
    rw [List.findIdx_eq hi]
    exact ⟨h, fun j hj => hall j (by omega) hj⟩
  unfold obP
  rw [e, if_pos hi]
theorem obP_no {Os : List Ob} {k n : ByteArray} (hall : ∀ j (h : j < Os.length), obIs k n Os[j] = false) : obP Os k n = -1 := by
  have e : Os.findIdx (obIs k n) = Os.length := by
    rw [List.findIdx_eq_length]
    intro x hx
    obtain ⟨i, hi, rfl⟩ := List.getElem_of_mem hx
    exact hall i hi
  unfold obP
  rw [e, if_neg (Nat.lt_irrefl _)]
theorem obP_neg (Os : List Ob) (k n : ByteArray) : decide (obP Os k n < 0) = !Os.any (obIs k n) := by
  unfold obP
  cases h : Os.any (obIs k n) with
  | true =>
    obtain ⟨x, hx, hp⟩ := List.any_eq_true.1 h
    rw [if_pos (List.findIdx_lt_length_of_exists ⟨x, hx, hp⟩)]
    simp
  | false =>
    have e : Os.findIdx (obIs k n) = Os.length := List.findIdx_eq_length.2 (fun x hx => by
      have := List.any_eq_false.1 h x hx
      simpa using this)
    rw [e, if_neg (Nat.lt_irrefl _)]
    rfl

section
variable (lo : Nat) (ov gv lv pv : Value) (B : Bk) (t r : ByteArray) (w : World)

set_option maxHeartbeats 1000000 in
theorem l5At_any (h : BookAt lo w ov gv lv pv B) :
    Calls Tryz.prog 109 #[.agg #[.int .i64 B.now, .int .i64 B.tick, .int .i64 B.given, ov, gv, lv, pv], .string t, .string r] w fun e w' => e = .returned (.int .i64 (obP B.os t r)) ∧ Below w.heap.size w w' := by
  have HL := hide h.obs
  have hm := h.obs.max
  unfold maxLen at hm
  obtain ⟨a0, k0, rfl⟩ := h.obs.form
  obtain ⟨a1, k1, rfl⟩ := h.grs.form
  obtain ⟨a2, k2, rfl⟩ := h.les.form
  obtain ⟨a3, k3, rfl⟩ := h.pus.form
  clear h
  go_enter Tryz.func109, Tryz.ntmps109
  go_wp2_with fail
  generalize hWa : w.alloc _ = Wa
  have HB : Hid (Below w.heap.size w Wa) := by rw [← hWa]; exact one_al w _
  have HX : Hid (Box Wa w.heap.size #[.int .i64 B.now, .int .i64 B.tick, .int .i64 B.given, .slice a0 B.os.length k0, .slice a1 B.gs.length k1, .slice a2 B.ls.length k2, .slice a3 B.ps.length k3]) := by rw [← hWa]; exact Box.new _ _ _ _ rfl
  clear hWa
  have x5 := HX.out.cell 3
  simp at x5
  go_loop [7] (fun i => ∃ k : Nat, i = .int .i64 k ∧ k ≤ B.os.length ∧ ∀ j (h : j < B.os.length), j < k → obIs t r B.os[j] = false) (fun i => B.os.length - (intOf i).toNat)
  case atStart => exact ⟨0, rfl, Nat.zero_le _, fun j _ h => by omega⟩
  case round =>
    obtain ⟨k, rfl, hk, hall⟩ := hrel
    have HA := hide hall
    clear hall
    by_cases hlt : k < B.os.length
    · obtain ⟨b, off, rfl, hbw, -, hc⟩ := HL.out.full' (by omega)
      obtain ⟨hs, vv0, vv1, hcell, -, -⟩ := hc k hlt
      obtain ⟨c0, c1, c2, c3, c4, c5, c6⟩ := hcell.below HB.out hbw
      have HI : Hid (obIs t r B.os[k] = (B.os[k].kd.toList == t.toList && B.os[k].nm.toList == r.toList)) := rfl
      clear hc hcell hs
      cases h1 : (B.os[k].kd.toList == t.toList) with
      | false =>
        have HE : Hid (obIs t r B.os[k] = false) := by unfold Hid; rw [HI.out, h1]; rfl
        go_wp2
        go_round
        case rel => exact ⟨k + 1, by go_num, by omega, fun j hj hjk => by
                      by_cases e : j = k
                      · subst e; exact HE.out
                      · exact HA.out j hj (by omega)⟩
        case measure => simp [intOf]; omega
      | true =>
        cases h2 : (B.os[k].nm.toList == r.toList) with
        | false =>
          have HE : Hid (obIs t r B.os[k] = false) := by unfold Hid; rw [HI.out, h1, h2]; rfl
          go_wp2
          go_round
          case rel => exact ⟨k + 1, by go_num, by omega, fun j hj hjk => by
                        by_cases e : j = k
                        · subst e; exact HE.out
                        · exact HA.out j hj (by omega)⟩
          case measure => simp [intOf]; omega
        | true =>
          have HE : Hid (obP B.os t r = k) := obP_yes hlt (by rw [HI.out, h1, h2]; rfl) HA.out
          go_wp2
          go_ret
          exact ⟨ret_int HE.out.symm, HB.out⟩
    · have HE : Hid (obP B.os t r = -1) := obP_no (fun i hi => HA.out i hi (by omega))
      go_wp2
      go_ret
      exact ⟨ret_int HE.out.symm, HB.out⟩
end
end Go.Proofs.YthfdfdlojfdckaaGreat

namespace Go.Proofs.YthfdfdlojfdckaaGreat
open Go.RowKit Go.Deep Go.Maps

theorem keyTwo : TwoKey Tryz.prog 255 9 :=
  ⟨⟨_, _, Tryz.underlying255, rfl, rfl, rfl, rfl, by decide, by decide⟩, by kernel_rfl, by kernel_rfl, Tryz.underlying9, by kernel_rfl, of_decide_eq_true (by kernel_rfl)⟩
theorem keyRow : (255 : TypeId) < Tryz.prog.types.size := of_decide_eq_true (by kernel_rfl)
theorem keyAt : Tryz.prog.keyTypeAt 2 255 = true := by kernel_rfl
set_option maxRecDepth 100000 in
theorem keyLaw : WideMaps.KeyLaw Tryz.prog 255 := deep_law_laid accLaid (by decide) keyRow keyAt keyTwo.wide
theorem keyKeyed : Keyed Tryz.prog 255 := Keyed.of_law keyLaw

/-- a map that has the keys of objects -/
structure PlOk {H : Type} (Os : List Ob) (D : DataW H) : Prop where
  isMap : IsMap D
  has : ∀ a b : ByteArray, a.size ≤ maxLen → b.size ≤ maxLen → Maps.has D (accL a b) = Os.any (obIs a b)
theorem PlOk.start {H : Type} : PlOk [] (.map [] : DataW H) := ⟨⟨[], rfl⟩, fun _ _ _ _ => rfl⟩
theorem PlOk.step {H : Type} {Os : List Ob} {D : DataW H} (h : PlOk Os D) (o : Ob) (hz : ObSize o) (d : DataW H) : PlOk (Os ++ [o]) (D.put (accL o.kd o.nm) d) := by
  refine ⟨h.isMap.put _ _, fun a b ha hb => ?_⟩
  rw [List.any_append]
  by_cases e : a = o.kd ∧ b = o.nm
  · obtain ⟨rfl, rfl⟩ := e
    rw [has_put_same h.isMap (isKey_acc _ _)]
    unfold obIs
    simp
  · have hne : accL a b ≠ accL o.kd o.nm := fun e' => e (keyTwo.inj keyLaw ha hb hz.s0 hz.s1 e')
    have hn : obIs a b o = false := by
      unfold obIs
      cases h1 : (o.kd.toList == a.toList) with
      | false => rfl
      | true =>
        cases h2 : (o.nm.toList == b.toList) with
        | false => rfl
        | true => exact absurd ⟨(bytes_eq.1 h1).symm, (bytes_eq.1 h2).symm⟩ e
    rw [has_put_other hne, h.has a b ha hb]
    simp [hn]

set_option maxHeartbeats 1000000 in
theorem keyOf_any (x : Ob) (va : Option Addr) (vn vc : Nat) (ha : Option Addr) (hn hc : Nat) (w : World) :
    Calls Tryz.prog 183 #[.agg #[.string x.kd, .string x.nm, .string x.tm, .slice va vn vc, .bool x.en, .slice ha hn hc, .int .i64 x.ver]] w
      fun e w' => e = .returned (.agg #[.string x.kd, .string x.nm]) ∧ Below w.heap.size w w' := by
  go_enter Tryz.func183, Tryz.ntmps183
  go_wp2
  refine bodyPost_ret (v := .agg #[.string x.kd, .string x.nm]) (by simp [results, Tryz.results183, go_sem]) rfl ⟨rfl, ?_⟩
  repeat (refine Below.setCell ?_ (by simp) _)
  exact ((Below.refl _ _).alloc (Nat.le_refl _) _).alloc (by simp) _

set_option maxRecDepth 100000 in
set_option maxHeartbeats 4000000 in
theorem places_any (lo : Nat) (v : Value) (Os : List Ob) (w : World) (hv : ObsAt lo w v Os) (hn : Os.length ≤ 1048576) :
    Calls Tryz.prog 147 #[v] w
      fun e w' => e = .returned (.map (some w.heap.size)) ∧ Below w.heap.size w w' ∧ ∃ D : DataW Unit, w'.ownsMap Tryz.prog 255 (plainElem Tryz.prog 3) w.heap.size Os.length D ∧ PlOk Os D := by
  have HV := hide hv
  obtain ⟨a, cap, rfl⟩ := hv.form
  clear hv
  have hmm : ∀ (n : Nat) (w : World), (Instr.makeMap 213 (some (.int .i64 n))).run Tryz.prog w = .ok (.map (some w.heap.size)) (w.alloc (.map #[] 0)) := fun n w => by simp [Instr.makeMap, go_sem, run_underlying Tryz.underlying213, Result.andThen]
  go_enter Tryz.func147, Tryz.ntmps147
  go_wp2
  clear hmm
  go_loopw [11] (fun i wr => ∃ k : Nat, i = .int .i64 k ∧ k ≤ Os.length ∧ Below w.heap.size w wr ∧ ∃ D : DataW Unit, wr.ownsMap Tryz.prog 255 (plainElem Tryz.prog 3) w.heap.size k D ∧ PlOk (Os.take k) D) (fun i _ => Os.length - (intOf i).toNat)
  case atStart => exact ⟨0, rfl, Nat.zero_le _, one_al _ _, .map [], World.ownsMap_made _ _ _ _, PlOk.start⟩
  case round =>
    obtain ⟨k, rfl, hk, hb, D, ho, hsum⟩ := hrel
    have HB := hide hb
    have HSUM := hide hsum
    clear hb hsum
    by_cases hlt : k < Os.length
    · obtain ⟨b, off, rfl, hbw, -, hc⟩ := HV.out.full' (by omega)
      obtain ⟨hs, vv0, vv1, hcell, hv0, hv1⟩ := hc k hlt
      obtain ⟨c0, c1, c2, c3, c4, c5, c6⟩ := hcell.below HB.out hbw
      obtain ⟨va, vc, rfl⟩ := hv0.at.form'
      obtain ⟨ha, hc', rfl⟩ := hv1.at.form'
      have HZ := hide hs
      have HO := hide ho
      have HTK := hide (List.take_succ_eq_append_getElem hlt)
      clear hc hcell hs hv0 hv1 ho
      go_wp2_with fail
      refine (keyOf_any Os[k] _ _ _ _ _ _ _).mono ?_
      rintro e w1 ⟨rfl, hb1⟩
      have HB1 : Hid (Below w.heap.size w w1) := (HB.out.trans ((one_al _ _).mono HB.out.size)).trans (hb1.mono (HB.out.trans ((one_al _ _).mono HB.out.size)).size)
      have ho1 : w1.ownsMap Tryz.prog 255 (plainElem Tryz.prog 3) w.heap.size k D := (HO.out.alloc _).kept (grown_of_below' hb1) (by simp)
      clear hb1
      go_wp2_with (at_mapUpdate; refine wpList_mapUpdate_own _ rfl _ _ _ 213 rfl 255 3 keyKeyed Tryz.underlying213 _ w.heap.size k _ rfl ho1 (by unfold maxLen; omega) _ _ _ rfl rfl (keyTwo.mk' HZ.out.s0 HZ.out.s1) _ [] (plainElem_int Tryz.underlying3 (WalkArith.wf_i64 (by omega))) ?_; intro w2 ho2 hg2; have HO2 := hide ho2; have HG2 := hide hg2; clear ho2 hg2)
      go_roundw
      case rel => exact ⟨k + 1, by go_num, by omega, ranges_kept_below HB1.out HG2.out (Nat.le_refl _), _, HO2.out, by rw [HTK.out]; exact HSUM.out.step _ HZ.out _⟩
      case measure => simp [intOf]; omega
    · have he : k = Os.length := by omega
      subst he
      have HT : Hid (Os.take Os.length = Os) := List.take_length
      have HO := hide ho
      clear ho
      go_wp2
      go_ret
      exact ⟨rfl, HB.out, D, HO.out, HT.out ▸ HSUM.out⟩
end Go.Proofs.YthfdfdlojfdckaaGreat

