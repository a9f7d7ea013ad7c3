import Derived.Test.YtlgakpnjicdblabN3
import Derived.Deep.AppendLies
namespace Go.Proofs.Ytlgakpnjicdblab
open Go.RowKit Go.Deep

theorem hasB_mem {L : List ByteArray} {s : ByteArray} : hasB L s = true ↔ s ∈ L := by
  unfold hasB
  rw [List.any_eq_true]
  constructor
  · rintro ⟨x, hx, h⟩; rw [bytes_eq] at h; subst h; exact hx
  · exact fun h => ⟨s, h, bytes_refl _⟩
theorem hasB_not {L : List ByteArray} {s : ByteArray} (h : hasB L s = false) : s ∉ L := fun hm => by rw [hasB_mem.2 hm] at h; cases h
/-- all that the mends of a field read is in a row -/
def readyB (Ms : List Md) (kind field : ByteArray) (row : List ByteArray) : Bool := (readsOf kind Ms field).all (hasB row)
theorem ready_all {Ms : List Md} {kind field : ByteArray} {row : List ByteArray} : readyB Ms kind field row = true ↔ ∀ r ∈ readsOf kind Ms field, r ∈ row := by
  unfold readyB
  rw [List.all_eq_true]
  exact ⟨fun h r hr => hasB_mem.1 (h r hr), fun h r hr => hasB_mem.2 (h r hr)⟩
/-- .. of one mend -/
def rdy1 (kind field : ByteArray) (row : List ByteArray) (m : Md) : Bool := !forB kind field m || ((m.wh.toList.isEmpty || hasB row m.wh) && (m.fr.toList.isEmpty || hasB row m.fr))
theorem ready_of {Ms : List Md} {kind field : ByteArray} {row : List ByteArray} (h : ∀ i (h : i < Ms.length), rdy1 kind field row Ms[i] = true) : readyB Ms kind field row = true := by
  rw [ready_all]
  intro r hr
  obtain ⟨m, hm, hf, hrd⟩ := mem_readsOf.1 hr
  obtain ⟨i, hi, rfl⟩ := List.getElem_of_mem hm
  have := h i hi
  unfold rdy1 at this
  rw [hf] at this
  simp only [Bool.not_true, Bool.false_or, Bool.and_eq_true, Bool.or_eq_true] at this
  unfold rdOf at hrd
  rcases List.mem_append.1 hrd with h1 | h1
  · by_cases he : Ms[i].wh.toList.isEmpty = true
    · rw [if_pos he] at h1; cases h1
    · rw [if_neg he] at h1
      rw [List.mem_singleton.1 h1]
      rcases this.1 with h2 | h2
      · exact absurd h2 he
      · exact hasB_mem.1 h2
  · by_cases he : Ms[i].fr.toList.isEmpty = true
    · rw [if_pos he] at h1; cases h1
    · rw [if_neg he] at h1
      rw [List.mem_singleton.1 h1]
      rcases this.2 with h2 | h2
      · exact absurd h2 he
      · exact hasB_mem.1 h2
theorem ready_not {Ms : List Md} {kind field : ByteArray} {row : List ByteArray} {i : Nat} (hi : i < Ms.length) (h : rdy1 kind field row Ms[i] = false) : readyB Ms kind field row = false := by
  cases hr : readyB Ms kind field row with
  | false => rfl
  | true =>
    rw [ready_all] at hr
    have hf : forB kind field Ms[i] = true := by
      cases hf : forB kind field Ms[i] with
      | true => rfl
      | false => unfold rdy1 at h; rw [hf] at h; cases h
    have key : ∀ r ∈ rdOf Ms[i], hasB row r = true := fun r hrr => hasB_mem.2 (hr r (mem_readsOf.2 ⟨Ms[i], List.getElem_mem hi, hf, hrr⟩))
    have hx : rdy1 kind field row Ms[i] = true := by
      unfold rdy1
      simp only [hf, Bool.not_true, Bool.false_or, Bool.and_eq_true, Bool.or_eq_true]
      refine ⟨?_, ?_⟩
      · cases hw : Ms[i].wh.toList.isEmpty with
        | true => exact Or.inl rfl
        | false => exact Or.inr (key _ (rd_wh hw))
      · cases hw : Ms[i].fr.toList.isEmpty with
        | true => exact Or.inl rfl
        | false => exact Or.inr (key _ (rd_fr hw))
    rw [hx] at h; cases h

set_option maxHeartbeats 4000000 in
theorem l3Ready_any (lo : Nat) (v rv : Value) (Ms : List Md) (kind field : ByteArray) (row : List ByteArray) (w : World) (hv : MdsAt lo w v Ms) (hr : StrsAt w rv row) :
    Calls Try.prog 31 #[v, .string kind, .string field, rv] w fun e w' => e = .returned (.bool (readyB Ms kind field row)) ∧ Below w.heap.size w w' := by
  have HR := hide hr
  obtain ⟨ra, rn, rcap, rfl⟩ := hr.form
  clear hr
  by_cases hL : Ms = []
  · subst hL
    obtain ⟨a, cap, rfl⟩ := hv.form
    clear hv
    have HQ : Hid (readyB [] kind field row = true) := rfl
    go_enter Try.func31, Try.ntmps31
    go_wp2
    go_loop [9] (fun i => i = .int .i64 0) (fun _ => 0)
    case atStart => rfl
    case round =>
      subst hrel
      go_wp2
      go_ret
      exact ⟨ret_bool HQ.out.symm, Below.refl _ _⟩
  obtain ⟨b, off, cap, rfl, hm, hbw, _, hc⟩ := hv.full hL
  clear hv
  unfold maxLen at hm
  go_enter Try.func31, Try.ntmps31
  go_wp2
  go_loopw [9] (fun i wr => ∃ k : Nat, i = .int .i64 k ∧ k ≤ Ms.length ∧ Below w.heap.size w wr ∧ ∀ i (h : i < Ms.length), i < k → rdy1 kind field row Ms[i] = true) (fun i _ => Ms.length - (intOf i).toNat)
  case atStart => exact ⟨0, rfl, by omega, Below.refl _ _, fun i _ h => by omega⟩
  case round =>
    obtain ⟨k, rfl, hk, hb, hall⟩ := hrel
    have HA := hide hall
    have HB := hide hb
    clear hall hb
    by_cases hlt : k < Ms.length
    · obtain ⟨_, hcell⟩ := hc k hlt
      obtain ⟨c0, c1, c2, c3, c4, c5⟩ := hcell.below HB.out hbw
      clear hcell
      have HB1 : ∀ o, Hid (Below w.heap.size w (wr.alloc o)) := fun o => HB.out.alloc HB.out.size _
      have HNX : Hid (rdy1 kind field row Ms[k] = true → ∀ i (h : i < Ms.length), i < k + 1 → rdy1 kind field row Ms[i] = true) := fun h i hi hik => by
        by_cases e : i = k
        · subst e; exact h
        · exact HA.out i hi (by omega)
      cases hk1 : (Ms[k].kind.toList == kind.toList) with
      | false =>
        go_wp2
        go_roundw
        case rel => exact ⟨k + 1, by go_num, by omega, (HB1 _).out, HNX.out (by unfold rdy1 forB; simp [hk1])⟩
        case measure => simp [intOf]; omega
      | true =>
        cases hf1 : (Ms[k].field.toList == field.toList) with
        | false =>
          go_wp2
          go_roundw
          case rel => exact ⟨k + 1, by go_num, by omega, (HB1 _).out, HNX.out (by unfold rdy1 forB; simp [hk1, hf1])⟩
          case measure => simp [intOf]; omega
        | true =>
          cases hwe : Ms[k].wh.toList.isEmpty with
          | true =>
            cases hfe : Ms[k].fr.toList.isEmpty with
            | true =>
              go_wp2
              go_roundw
              case rel => exact ⟨k + 1, by go_num, by omega, (HB1 _).out, HNX.out (by unfold rdy1 forB; simp [hk1, hf1, hwe, hfe])⟩
              case measure => simp [intOf]; omega
            | false =>
              go_wp2_with fail
              refine (l1Has_any _ row Ms[k].fr _ (HR.out.below (HB1 _).out)).mono ?_
              rintro e w1 ⟨rfl, rfl⟩
              cases hfh : hasB row Ms[k].fr with
              | true =>
                go_wp2
                go_roundw
                case rel => exact ⟨k + 1, by go_num, by omega, (HB1 _).out, HNX.out (by unfold rdy1 forB; simp [hk1, hf1, hwe, hfe, hfh])⟩
                case measure => simp [intOf]; omega
              | false =>
                go_wp2
                go_ret
                exact ⟨ret_bool (ready_not hlt (by unfold rdy1 forB; simp [hk1, hf1, hwe, hfe, hfh])).symm, (HB1 _).out⟩
          | false =>
            go_wp2_with fail
            refine (l1Has_any _ row Ms[k].wh _ (HR.out.below (HB1 _).out)).mono ?_
            rintro e w1 ⟨rfl, rfl⟩
            cases hwh : hasB row Ms[k].wh with
            | false =>
              go_wp2
              go_ret
              exact ⟨ret_bool (ready_not hlt (by unfold rdy1 forB; simp [hk1, hf1, hwe, hwh])).symm, (HB1 _).out⟩
            | true =>
              cases hfe : Ms[k].fr.toList.isEmpty with
              | true =>
                go_wp2
                go_roundw
                case rel => exact ⟨k + 1, by go_num, by omega, (HB1 _).out, HNX.out (by unfold rdy1 forB; simp [hk1, hf1, hwe, hwh, hfe])⟩
                case measure => simp [intOf]; omega
              | false =>
                go_wp2_with fail
                refine (l1Has_any _ row Ms[k].fr _ (HR.out.below (HB1 _).out)).mono ?_
                rintro e w1 ⟨rfl, rfl⟩
                cases hfh : hasB row Ms[k].fr with
                | true =>
                  go_wp2
                  go_roundw
                  case rel => exact ⟨k + 1, by go_num, by omega, (HB1 _).out, HNX.out (by unfold rdy1 forB; simp [hk1, hf1, hwe, hwh, hfe, hfh])⟩
                  case measure => simp [intOf]; omega
                | false =>
                  go_wp2
                  go_ret
                  exact ⟨ret_bool (ready_not hlt (by unfold rdy1 forB; simp [hk1, hf1, hwe, hwh, hfe, hfh])).symm, (HB1 _).out⟩
    · go_wp2
      go_ret
      exact ⟨ret_bool (ready_of fun i h => HA.out i h (by omega)).symm, HB.out⟩
end Go.Proofs.Ytlgakpnjicdblab
