import Derived.Test.YtlnlodleokobeaaGreatS4
namespace Go.Proofs.YtlnlodleokobeaaGreat
open Go.RowKit Go.Deep

theorem range_all {n : Nat} {p : Nat → Bool} (h : ∀ i, i < n → p i = true) : (List.range n).all p = true := by
  rw [List.all_eq_true]; intro i hi; exact h i (List.mem_range.1 hi)
theorem range_not {n k : Nat} {p : Nat → Bool} (hk : k < n) (h : p k = false) : (List.range n).all p = false := by
  rw [List.all_eq_false]; exact ⟨k, List.mem_range.2 hk, by simp [h]⟩

/-- place i is a name, and above the one ahead -/
def ascAt (L : List ByteArray) (i : Nat) : Bool :=
  nameB (L.getD i ⟨#[]⟩) && (i == 0 || Op.bytesLess (L.getD (i - 1) ⟨#[]⟩).toList (L.getD i ⟨#[]⟩).toList)
def ascB (L : List ByteArray) : Bool := (List.range L.length).all (ascAt L)

theorem getD_of {L : List ByteArray} {i : Nat} (h : i < L.length) : L.getD i ⟨#[]⟩ = L[i] := by
  rw [List.getD_eq_getElem?_getD, List.getElem?_eq_getElem h]; rfl
theorem ascAt_name {L : List ByteArray} {i : Nat} (h : i < L.length) (hn : nameB L[i] = false) : ascAt L i = false := by
  unfold ascAt; rw [getD_of h, hn]; rfl
theorem ascAt_zero {L : List ByteArray} (h : 0 < L.length) (hn : nameB L[0] = true) : ascAt L 0 = true := by
  unfold ascAt; rw [getD_of h, hn]; rfl
theorem ascAt_succ {L : List ByteArray} {j : Nat} (h : j + 1 < L.length) (hn : nameB L[j + 1] = true) : ascAt L (j + 1) = Op.bytesLess L[j].toList L[j + 1].toList := by
  unfold ascAt; rw [getD_of h, hn, Nat.add_sub_cancel, getD_of (by omega)]; simp

theorem asc_one {L : List ByteArray} (h : ascAt L 0 = true) : ∀ i, i < 1 → ascAt L i = true := fun i hi => by
  have e : i = 0 := by omega
  subst e
  exact h

set_option maxHeartbeats 1000000 in
theorem l1Asc_any (v : Value) (L : List ByteArray) (w : World) (hv : StrsAt w v L) :
    Calls Tryz.prog 163 #[v] w fun e w' => e = .returned (.bool (ascB L)) ∧ Below w.heap.size w w' := by
  rcases hv with ⟨a, cap, rfl, rfl⟩ | ⟨b, off, cap, rfl, hne, hm, hbw, hc, hsz⟩
  · go_enter Tryz.func163, Tryz.ntmps163
    go_wp2
    go_loop [3] (fun i => i = .int .i64 0) (fun _ => 0)
    case atStart => rfl
    case round =>
      subst hrel
      go_wp2
      go_ret
      exact ⟨rfl, Below.refl _ _⟩
  · unfold maxLen at hm
    go_enter Tryz.func163, Tryz.ntmps163
    go_wp2
    go_loopw [3] (fun i wr => ∃ k : Nat, i = .int .i64 k ∧ k ≤ L.length ∧ Below w.heap.size w wr ∧ ∀ i, i < k → ascAt L i = true) (fun i _ => L.length - (intOf i).toNat)
    case atStart => exact ⟨0, rfl, by omega, Below.refl _ _, fun i h => by omega⟩
    case round =>
      obtain ⟨k, rfl, hk, hb, hall⟩ := hrel
      have HA := hide hall
      clear hall
      by_cases hlt : k < L.length
      · have hck : wr.cell? ⟨b, off + k, none⟩ = some (.string L[k]) := by rw [hb.cell (p := ⟨b, _, none⟩) hbw]; exact hc k hlt
        have hskk := hsz L[k] (List.getElem_mem hlt)
        by_cases hn : nameB L[k] = true
        · cases k with
          | zero =>
            have HX := hide (ascAt_zero hlt hn)
            have hck0 : wr.cell? ⟨b, off, none⟩ = some (.string L[0]) := by simpa using hck
            clear hck
            go_wp2
            go_quiet ((go_at_call 56; exact Calls.quiet_of_same (nameOk_any _ _ hskk)))
            go_wp2
            go_roundw
            case rel => exact ⟨1, by go_num, by omega, below_drewN hb _, asc_one HX.out⟩
            case measure => simp [intOf]; omega
          | succ j =>
            have HX := hide (ascAt_succ hlt hn)
            have hcj : wr.cell? ⟨b, off + j, none⟩ = some (.string L[j]) := by rw [hb.cell (p := ⟨b, _, none⟩) hbw]; exact hc j (by omega)
            by_cases hls : Op.bytesLess L[j].toList L[j + 1].toList = true
            · go_wp2
              go_quiet ((go_at_call 56; exact Calls.quiet_of_same (nameOk_any _ _ hskk)))
              go_wp2
              go_roundw
              case rel => exact ⟨j + 2, by go_num, by omega, below_drewN hb _, fun i hi => by
                            by_cases e : i = j + 1
                            · subst e; rw [HX.out]; exact hls
                            · exact HA.out i (by omega)⟩
              case measure => simp [intOf]; omega
            · have hls' : Op.bytesLess L[j].toList L[j + 1].toList = false := by simpa using hls
              clear hls
              go_wp2
              go_quiet ((go_at_call 56; exact Calls.quiet_of_same (nameOk_any _ _ hskk)))
              go_wp2
              go_ret
              exact ⟨ret_bool (range_not hlt (by rw [HX.out]; exact hls')).symm, below_drewN hb _⟩
        · have hn' : nameB L[k] = false := by simpa using hn
          have HX := hide (ascAt_name hlt hn')
          go_wp2
          go_quiet ((go_at_call 56; exact Calls.quiet_of_same (nameOk_any _ _ hskk)))
          go_wp2
          go_ret
          exact ⟨ret_bool (range_not hlt HX.out).symm, below_drewN hb _⟩
      · go_wp2
        go_ret
        exact ⟨ret_bool (range_all (fun i hi => HA.out i (by omega))).symm, hb⟩

set_option maxHeartbeats 1000000 in
theorem ascNames_any (v : Value) (L : List ByteArray) (w : World) (hv : StrsAt w v L) :
    Calls Tryz.prog 259 #[v] w fun e w' => e = .returned (.bool (ascB L)) ∧ w' = w := by
  rcases hv with ⟨a, cap, rfl, rfl⟩ | ⟨b, off, cap, rfl, hne, hm, hbw, hc, hsz⟩
  · go_enter Tryz.func259, Tryz.ntmps259
    go_wp2
    go_loop [7] (fun i => i = .int .i64 0) (fun _ => 0)
    case atStart => rfl
    case round =>
      subst hrel
      go_wp2
      go_ret
      exact ⟨rfl, rfl⟩
  · unfold maxLen at hm
    go_enter Tryz.func259, Tryz.ntmps259
    go_wp2
    go_loop [7] (fun i => ∃ k : Nat, i = .int .i64 k ∧ k ≤ L.length ∧ ∀ i, i < k → ascAt L i = true) (fun i => L.length - (intOf i).toNat)
    case atStart => exact ⟨0, rfl, by omega, fun i h => by omega⟩
    case round =>
      obtain ⟨k, rfl, hk, hall⟩ := hrel
      have HA := hide hall
      clear hall
      by_cases hlt : k < L.length
      · have hck := hc k hlt
        have HSK := hide (hsz L[k] (List.getElem_mem hlt))
        by_cases hn : nameB L[k] = true
        · cases k with
          | zero =>
            have HX := hide (ascAt_zero hlt hn)
            have hck0 : w.cell? ⟨b, off, none⟩ = some (.string L[0]) := by simpa using hck
            clear hck
            go_wp2_with fail
            refine (isName_any _ _ HSK.out).mono ?_
            rintro e w1 ⟨rfl, rfl⟩
            go_wp2
            go_round
            case rel => exact ⟨1, by go_num, by omega, asc_one HX.out⟩
            case measure => simp [intOf]; omega
          | succ j =>
            have HX := hide (ascAt_succ hlt hn)
            have hcj := hc j (by omega)
            by_cases hls : Op.bytesLess L[j].toList L[j + 1].toList = true
            · go_wp2_with fail
              refine (isName_any _ _ HSK.out).mono ?_
              rintro e w1 ⟨rfl, rfl⟩
              go_wp2
              go_round
              case rel => exact ⟨j + 2, by go_num, by omega, fun i hi => by
                            by_cases e : i = j + 1
                            · subst e; rw [HX.out]; exact hls
                            · exact HA.out i (by omega)⟩
              case measure => simp [intOf]; omega
            · have hls' : Op.bytesLess L[j].toList L[j + 1].toList = false := by simpa using hls
              clear hls
              go_wp2_with fail
              refine (isName_any _ _ HSK.out).mono ?_
              rintro e w1 ⟨rfl, rfl⟩
              go_wp2
              go_ret
              exact ⟨ret_bool (range_not hlt (by rw [HX.out]; exact hls')).symm, rfl⟩
        · have hn' : nameB L[k] = false := by simpa using hn
          have HX := hide (ascAt_name hlt hn')
          go_wp2_with fail
          refine (isName_any _ _ HSK.out).mono ?_
          rintro e w1 ⟨rfl, rfl⟩
          go_wp2
          go_ret
          exact ⟨ret_bool (range_not hlt HX.out).symm, rfl⟩
      · go_wp2
        go_ret
        exact ⟨ret_bool (range_all (fun i hi => HA.out i (by omega))).symm, rfl⟩
end Go.Proofs.YtlnlodleokobeaaGreat

