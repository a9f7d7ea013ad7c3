import Derived.Test.YtlnlodleokobeaaBL1
import Derived.Test.YtlnlodleokobeaaBT0
import Derived.Test.YtlnlodleokobeaaBWB
import Derived.Test.YtlnlodleokobeaaBM2
import Derived.Test.YtlnlodleokobeaaBWA
import Derived.Test.YtlnlodleokobeaaBSA
import Derived.Test.YtlnlodleokobeaaBDA
import Derived.Test.YtlnlodleokobeaaBKA
import Derived.Test.YtlnlodleokobeaaBN12
import Derived.Test.YtlnlodleokobeaaBNZ
import Derived.Test.YtlnlodleokobeaaBT4
import Derived.Test.YtlnlodleokobeaaBK1
import Derived.Test.YtlnlodleokobeaaBNA
import Derived.Test.YtlnlodleokobeaaBN2
import Derived.Test.YtlnlodleokobeaaBN14
import Derived.Test.YtlnlodleokobeaaBC2
import Derived.Test.YtlnlodleokobeaaBT1
namespace Go.Proofs.Ytlnlodleokobeaa
open Go.RowKit Go.Deep

theorem StrsAt.spread {w : World} {a : Option Addr} {n cap : Nat} {L : List ByteArray} (h : StrsAt w (.slice a n cap) L) (hL : 0 < L.length) :
    ∃ b off, a = some ⟨b, off, none⟩ ∧ b < w.heap.size ∧ (∀ i (h : i < L.length), w.cell? ⟨b, off + i, none⟩ = some (.string L[i])) ∧ ∀ s ∈ L, s.size ≤ maxLen := by
  rcases h with ⟨_, _, _, rfl⟩ | ⟨b, off, _, h1, _, _, h4, h5, h6⟩
  · simp at hL
  · cases h1
    exact ⟨b, off, rfl, h4, h5, h6⟩

theorem decR_bd (s : ByteArray) : 0 ≤ decR s ∧ decR s ≤ 9999999 := by
  unfold decR
  split
  · rename_i h
    have h7 : s.size ≤ 7 ∧ allB digit s = true := by
      unfold decB inB at h
      simp only [Bool.and_eq_true, decide_eq_true_eq] at h
      exact ⟨by omega, h.2⟩
    have := valOf_take_bd s s.size (Nat.le_refl _) h7.1 (by
      rw [List.take_of_length_le (by simp)]
      exact h7.2)
    rw [decV_take (Nat.le_refl _)] at this
    omega
  · omega
theorem decR_num (s : ByteArray) : decR s = if 0 < numV s then numV s else 0 := by
  have := decR_bd s
  unfold decR numV at *
  split
  · rename_i h
    rw [if_pos h] at this
    split <;> omega
  · simp

/-- what a value of a field is of a resource -/
def wone (r : ByteArray) (f : Fd) (s : ByteArray) : Int := if (f.kd == 1 && f.we.toList == r.toList) = true then decR s else 0
/-- what the first k values are together -/
def wsum (r : ByteArray) (Fs : List Fd) (V : List ByteArray) : Nat → Int
  | 0 => 0
  | k + 1 => wsum r Fs V k + (match Fs[k]?, V[k]? with | some f, some s => wone r f s | _, _ => 0)
theorem wone_bd (r : ByteArray) (f : Fd) (s : ByteArray) : 0 ≤ wone r f s ∧ wone r f s ≤ 9999999 := by
  have := decR_bd s
  unfold wone
  split <;> omega
theorem wsum_succ {r : ByteArray} {Fs : List Fd} {V : List ByteArray} {k : Nat} (hf : k < Fs.length) (hv : k < V.length) : wsum r Fs V (k + 1) = wsum r Fs V k + wone r Fs[k] V[k] := by
  rw [wsum]
  simp [hf, hv]
theorem wsum_bd (r : ByteArray) (Fs : List Fd) (V : List ByteArray) (k : Nat) : 0 ≤ wsum r Fs V k ∧ wsum r Fs V k ≤ 9999999 * k := by
  induction k with
  | zero => simp [wsum]
  | succ k ih =>
    rw [wsum]
    split
    · rename_i f s _ _
      have := wone_bd r f s
      push_cast
      omega
    · push_cast
      omega
/-- how much of a resource an object is -/
def weighV (Ss : List Sh) (kind : ByteArray) (V : List ByteArray) (r : ByteArray) : Int :=
  if r.toList.isEmpty = true then 0 else
  match shOf Ss kind with
  | some x => if x.fields.length = V.length then (if (r.toList == kind.toList) = true then 1 else 0) + wsum r x.fields V V.length else 0
  | none => 0
theorem weigh_no {Ss : List Sh} {kind : ByteArray} {V : List ByteArray} {r : ByteArray} (h : ∀ x, shOf Ss kind = some x → x.fields.length ≠ V.length) : weighV Ss kind V r = 0 := by
  unfold weighV
  split
  · rfl
  · cases hs : shOf Ss kind with
    | none => rfl
    | some x => simp [h x hs]
theorem weigh_nil {Ss : List Sh} {kind : ByteArray} {V : List ByteArray} {r : ByteArray} (h : r.toList.isEmpty = true) : weighV Ss kind V r = 0 := by
  unfold weighV
  rw [if_pos h]
theorem weigh_yes {Ss : List Sh} {kind : ByteArray} {V : List ByteArray} {r : ByteArray} {x : Sh} (h : shOf Ss kind = some x) (hl : x.fields.length = V.length) (hr : r.toList.isEmpty = false) :
    weighV Ss kind V r = (if (r.toList == kind.toList) = true then 1 else 0) + wsum r x.fields V V.length := by
  unfold weighV
  rw [h]
  simp [hr, hl]
section
variable (lo : Nat) (sv mv tv : Value) (Ss : List Sh) (Ms : List Md) (Ts : List Tm) (kind nm team : ByteArray) (vv hv : Value) (en : Bool) (ver : Int) (V Ho : List ByteArray) (r : ByteArray) (w : World)

set_option maxRecDepth 20000 in
set_option maxHeartbeats 2000000 in
theorem specWeighs_any (h : LawAt lo w sv mv tv Ss Ms Ts) (hV : StrsAt w vv V) (hH : StrsAt w hv Ho) (n1 : V.length ≤ 1048576) :
    Calls Try.prog 7 #[.agg #[sv, mv, tv], .agg #[.string kind, .string nm, .string team, vv, .bool en, hv, .int .i64 ver], .string r] w
      fun e w' => e = .returned (.int .i64 (weighV Ss kind V r)) ∧ Below w.heap.size w w' := by
  have HL := hide h
  have HV := hide hV
  have HH := hide hH
  obtain ⟨a, cap, rfl⟩ := h.shs.form
  obtain ⟨a1, cap1, rfl⟩ := h.mds.form
  obtain ⟨a2, cap2, rfl⟩ := h.tms.form
  obtain ⟨va, vcap, rfl⟩ := hV.form'
  obtain ⟨ha, hcap, rfl⟩ := hH.form'
  clear h hV hH
  go_enter Try.func7, Try.ntmps7
  go_wp2_with fail
  obtain ⟨wz, hwz, HO, HB⟩ : ∃ wz, wz = (w.alloc (.cells #[.slice a Ss.length cap, .slice a1 Ms.length cap1, .slice a2 Ts.length cap2] 37)).alloc (.cells #[.string kind, .string nm, .string team, .slice va V.length vcap, .bool en, .slice ha Ho.length hcap, .int .i64 ver] 39) ∧
      Hid (Box wz (w.heap.size + 1) #[.string kind, .string nm, .string team, .slice va V.length vcap, .bool en, .slice ha Ho.length hcap, .int .i64 ver]) ∧ Hid (Below w.heap.size w wz) :=
    ⟨_, rfl, Box.new _ _ _ _ (by simp), (one_al _ _).trans ((one_al _ _).mono (by simp))⟩
  rw [← hwz]
  clear hwz
  refine (l2Fields_any kind nm team _ _ _ en ver V Ho Ss wz lo wz (HL.out.below HB.out).shs (Below.refl _ _) (HV.out.below HB.out) (HH.out.below HB.out)).mono ?_
  rintro e w1 ⟨hb1, hq⟩
  have HO1 := hide (HO.out.on hb1)
  have HB1 := hide (HB.out.trans (hb1.mono HB.out.size))
  rcases hq with ⟨x, fv, hsh, hlen, rfl, hF⟩ | ⟨hno, fa, fcap, rfl⟩
  · have HF := hide (hF.below hb1)
    obtain ⟨fa, fcap, rfl⟩ := hF.form
    have HS := hide hsh
    have HN := hide hlen
    clear hb1 hF hsh HO HB hlen
    cases hr : r.toList.isEmpty with
    | true =>
      have HQ := hide (weigh_nil (Ss := Ss) (kind := kind) (V := V) hr)
      go_wp2
      go_ret
      exact ⟨ret_int HQ.out.symm, HB1.out⟩
    | false =>
      have HQ := hide (weigh_yes HS.out HN.out hr)
      have hbd := wsum_bd r x.fields V
      have HBD := hide hbd
      have o0 := HO1.out.cell 0
      have o3 := HO1.out.cell 3
      simp at o0 o3
      have hvl : x.fields.length ≤ 1048576 := by have := HN.out; omega
      have HV1 := hide (HV.out.below HB1.out)
      clear hbd
      cases hk : (r.toList == kind.toList) with
      | true =>
        have HE : Hid (weighV Ss kind V r = 1 + wsum r x.fields V V.length) := by unfold Hid; rw [HQ.out, hk]; rfl
        go_wp2
        go_loop [9, 10] (fun n i => ∃ k : Nat, n = .int .i64 (1 + wsum r x.fields V k) ∧ i = .int .i64 k ∧ k ≤ x.fields.length) (fun _ i => x.fields.length - (intOf i).toNat)
        case atStart => exact ⟨0, by simp [wsum], rfl, by omega⟩
        case round =>
          obtain ⟨k, rfl, rfl, hkl⟩ := hrel
          by_cases hlt : k < x.fields.length
          · have hlv : k < V.length := by have := HN.out; omega
            obtain ⟨fb, foff, rfl, hfb, hfc⟩ := HF.out.full' (by omega)
            obtain ⟨hsz, wv, hcell, -⟩ := hfc k hlt
            obtain ⟨c0, c1, c2, c3, c4, c5, c6, c7, c8, c9, c10⟩ := hcell
            obtain ⟨vb, voff, rfl, hvb, hvc, hvs⟩ := HV1.out.spread (by omega)
            have hvk := hvc k hlv
            have hvz : V[k].size ≤ maxLen := hvs _ (List.getElem_mem hlv)
            have HST := hide (wsum_succ (r := r) hlt hlv)
            have HDN := hide (decR_num V[k])
            have hbd := HBD.out k
            have hbn := decR_bd V[k]
            have hW : wone r x.fields[k] V[k] = if (x.fields[k].kd == 1 && x.fields[k].we.toList == r.toList) = true then decR V[k] else 0 := rfl
            have HW := hide hW
            clear hfc hvc hvs c0 c2 c3 c4 c5 c6 c7 c8 c9 hsz hW
            cases hk1 : (x.fields[k].kd == 1) with
            | false =>
              have HE2 : Hid (wsum r x.fields V (k + 1) = wsum r x.fields V k) := by unfold Hid; rw [HST.out, HW.out, hk1]; simp
              go_wp2_with (go_at_call 23; refine (l1Number_any _ _ hvz).mono ?_; rintro e w2 ⟨rfl, rfl⟩)
              go_round
              case rel => exact ⟨k + 1, by rw [HE2.out], by go_num, by omega⟩
              case measure => simp [intOf]; omega
            | true =>
              cases hk2 : (x.fields[k].we.toList == r.toList) with
              | false =>
                have HE2 : Hid (wsum r x.fields V (k + 1) = wsum r x.fields V k) := by unfold Hid; rw [HST.out, HW.out, hk1, hk2]; simp
                go_wp2_with (go_at_call 23; refine (l1Number_any _ _ hvz).mono ?_; rintro e w2 ⟨rfl, rfl⟩)
                go_round
                case rel => exact ⟨k + 1, by rw [HE2.out], by go_num, by omega⟩
                case measure => simp [intOf]; omega
              | true =>
                by_cases hn : 0 < numV V[k]
                · have HE2 : Hid (wsum r x.fields V (k + 1) = wsum r x.fields V k + numV V[k]) := by unfold Hid; rw [HST.out, HW.out, hk1, hk2, HDN.out, if_pos hn]; simp
                  have hb2 := HBD.out (k + 1)
                  rw [HE2.out] at hb2
                  push_cast at hb2
                  go_wp2_with (go_at_call 23; refine (l1Number_any _ _ hvz).mono ?_; rintro e w2 ⟨rfl, rfl⟩)
                  go_round
                  case rel => exact ⟨k + 1, by rw [HE2.out]; congr 1; omega, by go_num, by omega⟩
                  case measure => simp [intOf]; omega
                · have HE2 : Hid (wsum r x.fields V (k + 1) = wsum r x.fields V k) := by unfold Hid; rw [HST.out, HW.out, hk1, hk2, HDN.out, if_neg hn]; simp
                  go_wp2_with (go_at_call 23; refine (l1Number_any _ _ hvz).mono ?_; rintro e w2 ⟨rfl, rfl⟩)
                  go_round
                  case rel => exact ⟨k + 1, by rw [HE2.out], by go_num, by omega⟩
                  case measure => simp [intOf]; omega
          · have he : k = V.length := by have := HN.out; omega
            subst he
            go_wp2
            go_ret
            exact ⟨ret_int (by have := HE.out; omega), HB1.out⟩
      | false =>
        have HE : Hid (weighV Ss kind V r = 0 + wsum r x.fields V V.length) := by unfold Hid; rw [HQ.out, hk]; rfl
        go_wp2
        go_loop [9, 10] (fun n i => ∃ k : Nat, n = .int .i64 (0 + wsum r x.fields V k) ∧ i = .int .i64 k ∧ k ≤ x.fields.length) (fun _ i => x.fields.length - (intOf i).toNat)
        case atStart => exact ⟨0, by simp [wsum], rfl, by omega⟩
        case round =>
          obtain ⟨k, rfl, rfl, hkl⟩ := hrel
          by_cases hlt : k < x.fields.length
          · have hlv : k < V.length := by have := HN.out; omega
            obtain ⟨fb, foff, rfl, hfb, hfc⟩ := HF.out.full' (by omega)
            obtain ⟨hsz, wv, hcell, -⟩ := hfc k hlt
            obtain ⟨c0, c1, c2, c3, c4, c5, c6, c7, c8, c9, c10⟩ := hcell
            obtain ⟨vb, voff, rfl, hvb, hvc, hvs⟩ := HV1.out.spread (by omega)
            have hvk := hvc k hlv
            have hvz : V[k].size ≤ maxLen := hvs _ (List.getElem_mem hlv)
            have HST := hide (wsum_succ (r := r) hlt hlv)
            have HDN := hide (decR_num V[k])
            have hbd := HBD.out k
            have hbn := decR_bd V[k]
            have hW : wone r x.fields[k] V[k] = if (x.fields[k].kd == 1 && x.fields[k].we.toList == r.toList) = true then decR V[k] else 0 := rfl
            have HW := hide hW
            clear hfc hvc hvs c0 c2 c3 c4 c5 c6 c7 c8 c9 hsz hW
            cases hk1 : (x.fields[k].kd == 1) with
            | false =>
              have HE2 : Hid (wsum r x.fields V (k + 1) = wsum r x.fields V k) := by unfold Hid; rw [HST.out, HW.out, hk1]; simp
              go_wp2_with (go_at_call 23; refine (l1Number_any _ _ hvz).mono ?_; rintro e w2 ⟨rfl, rfl⟩)
              go_round
              case rel => exact ⟨k + 1, by rw [HE2.out]; congr 1; omega, by go_num, by omega⟩
              case measure => simp [intOf]; omega
            | true =>
              cases hk2 : (x.fields[k].we.toList == r.toList) with
              | false =>
                have HE2 : Hid (wsum r x.fields V (k + 1) = wsum r x.fields V k) := by unfold Hid; rw [HST.out, HW.out, hk1, hk2]; simp
                go_wp2_with (go_at_call 23; refine (l1Number_any _ _ hvz).mono ?_; rintro e w2 ⟨rfl, rfl⟩)
                go_round
                case rel => exact ⟨k + 1, by rw [HE2.out]; congr 1; omega, by go_num, by omega⟩
                case measure => simp [intOf]; omega
              | true =>
                by_cases hn : 0 < numV V[k]
                · have HE2 : Hid (wsum r x.fields V (k + 1) = wsum r x.fields V k + numV V[k]) := by unfold Hid; rw [HST.out, HW.out, hk1, hk2, HDN.out, if_pos hn]; simp
                  have hb2 := HBD.out (k + 1)
                  rw [HE2.out] at hb2
                  push_cast at hb2
                  go_wp2_with (go_at_call 23; refine (l1Number_any _ _ hvz).mono ?_; rintro e w2 ⟨rfl, rfl⟩)
                  go_round
                  case rel => exact ⟨k + 1, by rw [HE2.out]; congr 1; omega, by go_num, by omega⟩
                  case measure => simp [intOf]; omega
                · have HE2 : Hid (wsum r x.fields V (k + 1) = wsum r x.fields V k) := by unfold Hid; rw [HST.out, HW.out, hk1, hk2, HDN.out, if_neg hn]; simp
                  go_wp2_with (go_at_call 23; refine (l1Number_any _ _ hvz).mono ?_; rintro e w2 ⟨rfl, rfl⟩)
                  go_round
                  case rel => exact ⟨k + 1, by rw [HE2.out]; congr 1; omega, by go_num, by omega⟩
                  case measure => simp [intOf]; omega
          · have he : k = V.length := by have := HN.out; omega
            subst he
            go_wp2
            go_ret
            exact ⟨ret_int (by have := HE.out; omega), HB1.out⟩
  · have HQ := hide (weigh_no (r := r) hno)
    clear hb1 HO HB hno
    go_wp2
    go_ret
    exact ⟨ret_int HQ.out.symm, HB1.out⟩
end
end Go.Proofs.Ytlnlodleokobeaa

