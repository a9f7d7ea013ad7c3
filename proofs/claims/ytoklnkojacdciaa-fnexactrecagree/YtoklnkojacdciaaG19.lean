import Derived.Test.YtoklnkojacdciaaG18
namespace Go.Proofs.Ytoklnkojacdciaa
open Go.RowKit Go.Deep

/-! spec.l22WishesOk -/
def txA (L : List ByteArray) (i : Nat) : ByteArray := L.getD i ⟨#[]⟩
def wokB (L : List ByteArray) (i : Nat) : Bool := decide (1 ≤ (txA L i).size) && (decide ((txA L i).size ≤ 160) && (List.range i).all (fun k => !((txA L k).toList == (txA L i).toList)))
def wishB (L : List ByteArray) : Bool := decide (L.length ≤ 20) && (List.range L.length).all (wokB L)

set_option maxRecDepth 20000 in
set_option maxHeartbeats 8000000 in
theorem l22Wishes_any (lo : Nat) (v : Value) (L : List ByteArray) (w : World) (hv : RtsAt lo w v L) :
    Calls Try.prog 68 #[v] w fun e w' => e = .returned (.bool (wishB L)) ∧ Below w.heap.size w w' := by
  have HV := hide hv
  have hm := hv.max
  unfold maxLen at hm
  obtain ⟨a, cap, rfl⟩ := hv.form
  clear hv
  have HI : Hid (wishB L = (decide (L.length ≤ 20) && (List.range L.length).all (wokB L))) := rfl
  by_cases l0 : L.length ≤ 20
  case neg =>
    have HE : Hid (wishB L = false) := by unfold Hid; rw [HI.out, decide_eq_false l0]; rfl
    have d0 : decide ((20 : Int) < (L.length : Int)) = true := by simp; omega
    go_enter Try.func68, Try.ntmps68
    go_wp2
    go_ret
    exact ⟨ret_bool HE.out.symm, Below.refl _ _⟩
  have d0 : decide ((20 : Int) < (L.length : Int)) = false := by simp; omega
  have HE1 : Hid (wishB L = (List.range L.length).all (wokB L)) := by unfold Hid; rw [HI.out, decide_eq_true l0]; rfl
  go_enter Try.func68, Try.ntmps68
  go_wp2
  clear d0
  go_loopw [3] (fun i wr => ∃ k : Nat, i = .int .i64 k ∧ k ≤ L.length ∧ Below w.heap.size w wr ∧ ∀ j, j < k → wokB L j = true) (fun i _ => L.length - (intOf i).toNat)
  case atStart => exact ⟨0, rfl, by omega, Below.refl _ _, fun j h => by omega⟩
  case round =>
    obtain ⟨k, rfl, hk, hb, hall⟩ := hrel
    have HAL := hide hall
    have HBr := hide hb
    clear hall hb
    by_cases hlt : k < L.length
    · obtain ⟨b, off, rfl, hbw, -, hc⟩ := HV.out.full' (by omega)
      have HCC : Hid (∀ W, Below w.heap.size w W → ∀ j, j < L.length → W.cell? ⟨b, off + j, none⟩ = some (.string (txA L j))) := by
        intro W hW j hj
        rw [hW.cell (p := ⟨b, off + j, none⟩) hbw, (hc j hj).2]
        unfold txA
        rw [List.getD_eq_getElem?_getD, List.getElem?_eq_getElem hj]; rfl
      have hs := (hc k hlt).1
      unfold RtSize maxLen at hs
      obtain ⟨x, hx⟩ : ∃ x, x = txA L k := ⟨_, rfl⟩
      have hxs : x.size ≤ 9223372036854775807 := by
        rw [hx]; unfold txA; rw [List.getD_eq_getElem?_getD, List.getElem?_eq_getElem hlt]; simp only [Option.getD_some]; omega
      have c0 : wr.cell? ⟨b, off + k, none⟩ = some (.string x) := by rw [hx]; exact HCC.out _ HBr.out k hlt
      have HW : Hid (wokB L k = (decide (1 ≤ x.size) && (decide (x.size ≤ 160) && (List.range k).all (fun j => !((txA L j).toList == x.toList))))) := by unfold Hid wokB; rw [hx]
      have HX := hide hx
      clear hc hs hx
      by_cases h1 : 1 ≤ x.size
      case neg =>
        have d1 : decide ((x.size : Int) < 1) = true := by simp; omega
        have HNo : Hid (wishB L = false) := by unfold Hid; rw [HE1.out]; exact range_not hlt (by rw [HW.out, decide_eq_false h1]; rfl)
        go_wp2
        go_ret
        exact ⟨ret_bool HNo.out.symm, HBr.out⟩
      have d1 : decide ((x.size : Int) < 1) = false := by simp; omega
      by_cases h2 : x.size ≤ 160
      case neg =>
        have d2 : decide ((160 : Int) < (x.size : Int)) = true := by simp; omega
        have HNo : Hid (wishB L = false) := by unfold Hid; rw [HE1.out]; exact range_not hlt (by rw [HW.out, decide_eq_true h1, decide_eq_false h2]; rfl)
        go_wp2
        go_ret
        exact ⟨ret_bool HNo.out.symm, HBr.out⟩
      have d2 : decide ((160 : Int) < (x.size : Int)) = false := by simp; omega
      have HW2 : Hid (wokB L k = (List.range k).all (fun j => !((txA L j).toList == x.toList))) := by unfold Hid; rw [HW.out, decide_eq_true h1, decide_eq_true h2]; rfl
      clear HW
      go_wp2
      clear d1 d2 c0
      rename World => wo
      go_loopw [4] (fun i wq => ∃ n : Nat, i = .int .i64 n ∧ n ≤ k ∧ Below wo.heap.size wo wq ∧ ∀ j, j < n → (!((txA L j).toList == x.toList)) = true) (fun i _ => k - (intOf i).toNat)
      case atStart => exact ⟨0, rfl, by omega, Below.refl _ _, fun j h => by omega⟩
      case round =>
        obtain ⟨n, rfl, hn, hb, hall⟩ := hrel
        have HIN := hide hall
        have HBq := hide hb
        clear hall hb
        by_cases hln : n < k
        · have i0 : (0 : Int) ≤ (k : Int) := by omega
          have i1 : (k : Int) < (L.length : Int) := by omega
          have j0 : (0 : Int) ≤ (n : Int) := by omega
          have j1 : (n : Int) < (L.length : Int) := by omega
          obtain ⟨y, hy⟩ : ∃ y, y = txA L n := ⟨_, rfl⟩
          have HC : Hid (wr.cell? ⟨b, off + k, none⟩ = some (.string x)) := by unfold Hid; rw [HX.out]; exact HCC.out _ (bt HBr.out HBq.out) k hlt
          have HD : Hid (wr.cell? ⟨b, off + n, none⟩ = some (.string y)) := by unfold Hid; rw [hy]; exact HCC.out _ (bt HBr.out HBq.out) n (by omega)
          have HY := hide hy
          clear hy
          go_wp2
          go_cut [41] (fun c wc => c = .bool (y.toList == x.toList) ∧ Below wr.heap.size wr wc)
          case first =>
            have xn : Nonempty (In (Up wr)) := ⟨⟨wr, Below.refl _ _⟩⟩
            have xs := fun (X : In (Up wr)) => in_self X
            have s0 : ∀ X : In (Up wr), _ := fun X => Up.cell X HC.out
            have s1 : ∀ X : In (Up wr), _ := fun X => Up.cell X HD.out
            refine wp_region_class (Up wr) (by kernel_rfl) (by kernel_rfl) ((Below.refl _ _).drew) ?_
            repeat (go_big_quiet_step (fail))
            refine wpQuiet_nil ?_
            intro wn hw
            obtain ⟨X, hX⟩ := hw
            have HWN : Below wr.heap.size wr wn := by rw [hX]; exact X.h
            clear hX X s0 s1 xs xn
            go_wp2
            go_meet
            exact ⟨rfl, HWN⟩
          case rest =>
          obtain ⟨rfl, hbc⟩ := hcut
          have HBc : Hid (Below wo.heap.size wo wc) := bt HBq.out hbc
          clear hbc
          cases h7 : (y.toList == x.toList) with
          | true =>
            have HNo : Hid (wishB L = false) := by unfold Hid; rw [HE1.out]; exact range_not hlt (by rw [HW2.out]; exact range_not hln (by rw [← HY.out, h7]; rfl))
            go_wp2
            go_ret
            exact ⟨ret_bool HNo.out.symm, bt HBr.out HBc.out⟩
          | false =>
            have HT := hide h7
            go_wp2
            go_roundw
            case rel => exact ⟨n + 1, by go_num, by omega, HBc.out, fun j hj => by
                          by_cases e : j = n
                          · rw [e, ← HY.out, HT.out]; rfl
                          · exact HIN.out j (by omega)⟩
            case measure => simp [intOf]; omega
        · have HYs : Hid (wokB L k = true) := by unfold Hid; rw [HW2.out]; exact range_all (fun i hi => HIN.out i (by omega))
          go_wp2
          go_roundw
          case rel => exact ⟨k + 1, by go_num, by omega, bt HBr.out HBq.out, fun j hj => by
                        by_cases e : j = k
                        · rw [e]; exact HYs.out
                        · exact HAL.out j (by omega)⟩
          case measure => simp [intOf]; omega
    · have HE2 : Hid (wishB L = true) := by unfold Hid; rw [HE1.out]; exact range_all (fun i hi => HAL.out i (by omega))
      go_wp2
      go_ret
      exact ⟨ret_bool HE2.out.symm, HBr.out⟩
end Go.Proofs.Ytoklnkojacdciaa
