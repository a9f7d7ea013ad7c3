import Derived.Test.YtlnlodleokobeaaGreatANA
import Derived.Test.YtlnlodleokobeaaGreatAN2
import Derived.Test.YtlnlodleokobeaaGreatAP1
import Derived.Test.YtlnlodleokobeaaGreatASA
import Derived.Test.YtlnlodleokobeaaGreatAKA
import Derived.Test.YtlnlodleokobeaaGreatAWB
import Derived.Test.YtlnlodleokobeaaGreatAC2
import Derived.Test.YtlnlodleokobeaaGreatAK1
import Derived.Test.YtlnlodleokobeaaGreatAWA
import Derived.Test.YtlnlodleokobeaaGreatAS13
import Derived.Test.YtlnlodleokobeaaGreatADA
import Derived.Test.YtlnlodleokobeaaGreatAM2
namespace Go.Proofs.YtlnlodleokobeaaGreat
open Go.RowKit Go.Deep

theorem allS_stop {L : List ByteArray} {p : ByteArray → Bool} {k : Nat} (h : k < L.length) (hp : p L[k] = false) : L.all p = false := by
  rw [List.all_eq_false]; exact ⟨L[k], List.getElem_mem h, by simp [hp]⟩
theorem allS_end {L : List ByteArray} {p : ByteArray → Bool} (h : ∀ i (h : i < L.length), p L[i] = true) : L.all p = true := by
  rw [List.all_eq_true]
  intro x hx
  obtain ⟨i, hi, rfl⟩ := List.getElem_of_mem hx
  exact h i hi

set_option maxHeartbeats 1000000 in
theorem allAmong_any (rv wv : Value) (row L : List ByteArray) (w : World) (hr : StrsAt w rv row) (hv : StrsAt w wv L) :
    Calls Tryz.prog 239 #[rv, wv] w fun e w' => e = .returned (.bool (L.all (hasB row))) ∧ w' = w := by
  have HR := hide hr
  obtain ⟨ra, rn, rcap, rfl⟩ := hr.form
  clear hr
  rcases hv with ⟨a, cap, rfl, rfl⟩ | ⟨b, off, cap, rfl, hne, hm, hbw, hc, hsz⟩
  · go_enter Tryz.func239, Tryz.ntmps239
    go_wp2
    go_loop [9] (fun i => i = .int .i64 0) (fun _ => 0)
    case atStart => rfl
    case round =>
      subst hrel
      go_wp2
      go_ret
      exact ⟨rfl, rfl⟩
  · unfold maxLen at hm
    go_enter Tryz.func239, Tryz.ntmps239
    go_wp2
    go_loop [9] (fun i => ∃ k : Nat, i = .int .i64 k ∧ k ≤ L.length ∧ ∀ i (h : i < L.length), i < k → hasB row L[i] = true) (fun i => L.length - (intOf i).toNat)
    case atStart => exact ⟨0, rfl, by omega, fun i _ h => by omega⟩
    case round =>
      obtain ⟨k, rfl, hk, hall⟩ := hrel
      have HA := hide hall
      clear hall
      by_cases hlt : k < L.length
      · have hck := hc k hlt
        go_wp2_with fail
        refine (contains_any _ row L[k] _ HR.out).mono ?_
        rintro e w1 ⟨rfl, rfl⟩
        cases hh : hasB row L[k] with
        | false =>
          go_wp2
          go_ret
          exact ⟨ret_bool (allS_stop hlt hh).symm, rfl⟩
        | true =>
          go_wp2
          go_round
          case rel => exact ⟨k + 1, by go_num, by omega, fun i h h' => by
                        by_cases e : i = k
                        · subst e; exact hh
                        · exact HA.out i h (by omega)⟩
          case measure => simp [intOf]; omega
      · go_wp2
        go_ret
        exact ⟨ret_bool (allS_end fun i h => HA.out i h (by omega)).symm, rfl⟩

/-- what a mend reads, the first j of the two -/
def rdP (m : Md) (j : Nat) : List ByteArray := if j = 0 then [] else if j = 1 then (if m.wh.toList.isEmpty = true then [] else [m.wh]) else rdOf m
theorem rdP_len (m : Md) (j : Nat) : (rdP m j).length ≤ 2 := by
  unfold rdP rdOf
  split
  · simp
  · split
    · split <;> simp
    · rw [List.length_append]; split <;> split <;> simp
theorem reads_cons (kind field : ByteArray) (m : Md) (Ms : List Md) : readsOf kind (m :: Ms) field = (if forB kind field m = true then rdOf m else []) ++ readsOf kind Ms field := by
  unfold readsOf
  by_cases h : forB kind field m = true <;> simp [h]
theorem reads_len (kind field : ByteArray) (Ms : List Md) : (readsOf kind Ms field).length ≤ 2 * Ms.length := by
  induction Ms with
  | nil => simp [readsOf_nil]
  | cons m Ms ih =>
    have h2 : (rdOf m).length ≤ 2 := by unfold rdOf; rw [List.length_append]; split <;> split <;> simp
    rw [reads_cons, List.length_append, List.length_cons]
    by_cases h : forB kind field m = true
    · rw [if_pos h]; omega
    · rw [if_neg h]; simp only [List.length_nil]; omega
theorem own_eq {base : Nat} {W : World} {v : Value} {R R' : List ByteArray} (h : OwnS base W v R) (e : R = R') : OwnS base W v R' := e ▸ h
theorem reads_take {kind field : ByteArray} {Ms : List Md} {k : Nat} (hk : k < Ms.length) : readsOf kind (Ms.take (k + 1)) field = readsOf kind (Ms.take k) field ++ (if forB kind field Ms[k] = true then rdOf Ms[k] else []) := by
  rw [List.take_succ_eq_append_getElem hk, readsOf_snoc]

theorem index_zero (W : World) (x y : ByteArray) : (Instr.index 293 (.agg #[.string x, .string y]) (.int .i64 0)).run Tryz.prog W = .ok (.string x) W := by
  kernel_rfl
theorem index_one (W : World) (x y : ByteArray) : (Instr.index 293 (.agg #[.string x, .string y]) (.int .i64 1)).run Tryz.prog W = .ok (.string y) W := by
  kernel_rfl

set_option maxRecDepth 20000 in
set_option maxHeartbeats 4000000 in
theorem readFor_any (lo : Nat) (v : Value) (Ms : List Md) (kind field : ByteArray) (w : World) (hv : MdsAt lo w v Ms) (hn : Ms.length ≤ 1048576) :
    Calls Tryz.prog 213 #[.string kind, .string field, v] w fun e w' => ∃ v', e = .returned v' ∧ Below w.heap.size w w' ∧ OwnS w.heap.size w' v' (readsOf kind Ms field) := by
  obtain ⟨i0, hi, hz0, hz1, hz2⟩ := info_parts Tryz.info9
  have HI := hide (And.intro hi (And.intro hz0 (And.intro hz1 hz2)))
  clear hi hz0 hz1 hz2
  have HV := hide hv
  obtain ⟨a, cap, rfl⟩ := hv.form
  clear hv
  go_enter Tryz.func213, Tryz.ntmps213
  go_wp2
  go_loopw [7, 14] (fun r i wr => ∃ k : Nat, i = .int .i64 k ∧ k ≤ Ms.length ∧ Below w.heap.size w wr ∧ OwnS w.heap.size wr r (readsOf kind (Ms.take k) field)) (fun _ i _ => Ms.length - (intOf i).toNat)
  case atStart => exact ⟨0, rfl, by omega, Below.refl _ _, OwnS.nil _ _⟩
  case round =>
    obtain ⟨k, rfl, hk, hb, hown⟩ := hrel
    have HB := hide hb
    have HO := hide hown
    obtain ⟨ra, rcap, rfl⟩ := hown.form
    clear hb hown
    by_cases hlt : k < Ms.length
    · obtain ⟨b, off, rfl, hbw, hc⟩ := HV.out.full' (by omega)
      obtain ⟨hsz, hcell⟩ := hc k hlt
      obtain ⟨c0, c1, c2, c3, c4, c5⟩ := hcell.below HB.out hbw
      clear hcell hc
      have HST := hide (reads_take (kind := kind) (field := field) hlt)
      cases hk1 : (Ms[k].kind.toList == kind.toList) with
      | false =>
        have HF : Hid (readsOf kind (Ms.take (k + 1)) field = readsOf kind (Ms.take k) field) := by unfold Hid; rw [HST.out, if_neg (by unfold forB; simp [hk1]), List.append_nil]
        go_wp2
        go_roundw
        case rel => exact ⟨k + 1, by go_num, by omega, HB.out.alloc HB.out.size _, by rw [HF.out]; exact HO.out.below ((Below.refl _ _).alloc (Nat.le_refl _) _)⟩
        case measure => simp [intOf]; omega
      | true =>
        cases hf1 : (Ms[k].field.toList == field.toList) with
        | false =>
          have HF : Hid (readsOf kind (Ms.take (k + 1)) field = readsOf kind (Ms.take k) field) := by unfold Hid; rw [HST.out, if_neg (by unfold forB; simp [hf1]), List.append_nil]
          go_wp2
          go_roundw
          case rel => exact ⟨k + 1, by go_num, by omega, HB.out.alloc HB.out.size _, by rw [HF.out]; exact HO.out.below ((Below.refl _ _).alloc (Nat.le_refl _) _)⟩
          case measure => simp [intOf]; omega
        | true =>
          have HF : Hid (readsOf kind (Ms.take (k + 1)) field = readsOf kind (Ms.take k) field ++ rdOf Ms[k]) := by unfold Hid; rw [HST.out, if_pos (by unfold forB; simp [hk1, hf1])]
          have HRL : Hid ((readsOf kind (Ms.take k) field).length ≤ 2097152) := by
            have := reads_len kind field (Ms.take k)
            rw [List.length_take] at this
            unfold Hid; omega
          clear HST
          generalize readsOf kind (Ms.take k) field = R0 at *
          have HSZ := hide hsz
          go_wp2
          generalize hW2 : wr.alloc _ = W2
          have HB2 : Hid (Below w.heap.size w W2) := by rw [← hW2]; exact HB.out.alloc HB.out.size _
          have HO2 : Hid (OwnS w.heap.size W2 (.slice ra R0.length rcap) R0) := by rw [← hW2]; exact HO.out.below ((Below.refl _ _).alloc (Nat.le_refl _) _)
          clear hW2 HB HO c0 c1 c2 c3 c4 c5 hk1 hf1
          have hx0 := fun W => index_zero W Ms[k].wh Ms[k].fr
          have hx1 := fun W => index_one W Ms[k].wh Ms[k].fr
          go_loopw [7, 33] (fun r i wr => ∃ j : Nat, j ≤ 2 ∧ i = .int .i64 j ∧ Below w.heap.size w wr ∧ OwnS w.heap.size wr r (R0 ++ rdP Ms[k] j)) (fun _ i _ => 2 - (intOf i).toNat)
          case atStart => exact ⟨0, by omega, rfl, HB2.out, by unfold rdP; simpa using HO2.out⟩
          case round =>
            obtain ⟨j, hj2, rfl, hbj, hoj⟩ := hrel
            have HBj := hide hbj
            have HOj := hide hoj
            have HLj : Hid ((R0 ++ rdP Ms[k] j).length ≤ 2097154) := by
              have := rdP_len Ms[k] j
              have := HRL.out
              unfold Hid; rw [List.length_append]; omega
            obtain ⟨ja, jcap, rfl⟩ := hoj.form
            clear hbj hoj HB2 HO2
            by_cases hj0 : j = 0
            · subst hj0
              cases hwe : Ms[k].wh.toList.isEmpty with
              | true =>
                go_wp2
                go_roundw
                case rel => exact ⟨1, by omega, rfl, HBj.out, own_eq HOj.out (by unfold rdP; simp [hwe])⟩
                case measure => simp [intOf]
              | false =>
                generalize hR1 : R0 ++ rdP Ms[k] 0 = R1 at *
                go_wp2_with (at_builtin; refine wpList_append_lies _ rfl (.tmp 38) (.tmp 40) 120 rfl w.heap.size 9 i0 (.string ⟨#[]⟩) 1 16 Tryz.underlying120 HI.out.1 HI.out.2.1 HI.out.2.2.1 HI.out.2.2.2 rfl (by decide) _ _ _ rfl (HOj.out.below ((Below.refl _ _).alloc (Nat.le_refl _) _)).row ⟨wr.heap.size, 0, none⟩ 1 1 [.string Ms[k].wh] rfl rfl (cell_new1 _ _ _ _ rfl) (one_oneCell _) (by decide) (by have := HLj.out; unfold maxLen; omega) (by have := HLj.out; omega) (by have := HBj.out.size; simp; omega) _ rfl ?_; intro g cap1 w3 hown3 hgrow3 hat3 hlt3)
                go_roundw
                case rel => exact ⟨1, by omega, rfl, (HBj.out.alloc HBj.out.size _).trans ((HOj.out.below ((Below.refl _ _).alloc (Nat.le_refl _) _)).grown hgrow3 (by have := HBj.out.size; simp; omega)), own_eq (HOj.out.snoc hown3 HSZ.out.s2) (by rw [← hR1]; unfold rdP rdOf; simp [hwe])⟩
                case measure => simp [intOf]
            · by_cases hj1 : j = 1
              · subst hj1
                cases hfe : Ms[k].fr.toList.isEmpty with
                | true =>
                  go_wp2
                  go_roundw
                  case rel => exact ⟨2, by omega, rfl, HBj.out, own_eq HOj.out (by unfold rdP rdOf; simp [hfe])⟩
                  case measure => simp [intOf]
                | false =>
                  generalize hR1 : R0 ++ rdP Ms[k] 1 = R1 at *
                  go_wp2_with (at_builtin; refine wpList_append_lies _ rfl (.tmp 38) (.tmp 40) 120 rfl w.heap.size 9 i0 (.string ⟨#[]⟩) 1 16 Tryz.underlying120 HI.out.1 HI.out.2.1 HI.out.2.2.1 HI.out.2.2.2 rfl (by decide) _ _ _ rfl (HOj.out.below ((Below.refl _ _).alloc (Nat.le_refl _) _)).row ⟨wr.heap.size, 0, none⟩ 1 1 [.string Ms[k].fr] rfl rfl (cell_new1 _ _ _ _ rfl) (one_oneCell _) (by decide) (by have := HLj.out; unfold maxLen; omega) (by have := HLj.out; omega) (by have := HBj.out.size; simp; omega) _ rfl ?_; intro g cap1 w3 hown3 hgrow3 hat3 hlt3)
                  go_roundw
                  case rel => exact ⟨2, by omega, rfl, (HBj.out.alloc HBj.out.size _).trans ((HOj.out.below ((Below.refl _ _).alloc (Nat.le_refl _) _)).grown hgrow3 (by have := HBj.out.size; simp; omega)), own_eq (HOj.out.snoc hown3 HSZ.out.s5) (by rw [← hR1]; unfold rdP rdOf; simp [hfe])⟩
                  case measure => simp [intOf]
              · have e : j = 2 := by omega
                subst e
                go_wp2
                exact ⟨⟨k + 1, by go_num, by omega, HBj.out, own_eq HOj.out (by rw [HF.out]; rfl)⟩, by simp [intOf]; omega⟩
    · have e : k = Ms.length := by omega
      subst e
      have HE : Hid (readsOf kind (Ms.take Ms.length) field = readsOf kind Ms field) := by unfold Hid; rw [List.take_length]
      go_wp2
      go_ret
      exact ⟨_, rfl, HB.out, own_eq HO.out HE.out⟩

set_option maxHeartbeats 1000000 in
theorem rowClos_any (lo : Nat) (mv : Value) (Ms : List Md) (kind name : ByteArray) (B1 B2 : Nat) (w : World) (h1 : w.cell? ⟨B1, 0, none⟩ = some (.string kind)) (h2 : w.cell? ⟨B2, 0, none⟩ = some mv) (hv : MdsAt lo w mv Ms) (hn : Ms.length ≤ 1048576) :
    Calls Tryz.prog 212 #[.string name, .pointer (some ⟨B1, 0, none⟩), .pointer (some ⟨B2, 0, none⟩)] w fun e w' => ∃ v', e = .returned v' ∧ Below w.heap.size w w' ∧ OwnS w.heap.size w' v' (readsOf kind Ms name) := by
  have HV := hide hv
  obtain ⟨a, cap, rfl⟩ := hv.form
  clear hv
  go_enter Tryz.func212, Tryz.ntmps212
  go_wp2_with fail
  refine (readFor_any lo _ Ms kind name _ HV.out hn).mono ?_
  rintro e w1 ⟨v1, rfl, hb1, ho1⟩
  have HB1 := hide hb1
  have HO1 := hide ho1
  clear hb1 ho1
  go_wp2
  go_ret
  exact ⟨_, rfl, HB1.out, HO1.out⟩
end Go.Proofs.YtlnlodleokobeaaGreat

