import Derived.Test.YtoklnkojacdciaaG20
import Derived.Test.YtoklnkojacdciaaG28
namespace Go.Proofs.Ytoklnkojacdciaa
open Go.RowKit Go.Deep

def rRa (x y : Ra) : Bool := decide (x.ix < y.ix)
def cRa (x y : Ra) : Int := cmpI x.ix y.ix
theorem cRa_neg (x y : Ra) : decide (cRa x y < 0) = rRa x y := by
  unfold cRa rRa
  rw [Bool.eq_iff_iff, decide_eq_true_iff, decide_eq_true_iff]
  exact cmpI_neg
set_option maxHeartbeats 1000000 in
theorem cmpRa_any (x y : Ra) (a a' : Option Addr) (k k' : Nat) (w : World) :
    Calls Try.prog 117 #[.agg #[.int .i64 x.ix, .slice a x.fr.length k], .agg #[.int .i64 y.ix, .slice a' y.fr.length k']] w fun e w' => e = .returned (.int .i64 (cRa x y)) ∧ Below w.heap.size w w' := by
  have HO : ∀ o o', Hid (Below w.heap.size w ((w.alloc o).alloc o')) := fun o o' => (one_al w o).alloc (by simp) o'
  go_enter Try.func117, Try.ntmps117
  go_wp2_with (go_at_call 106; refine (cmpInt_any _ _ _).mono ?_; rintro e w' ⟨rfl, rfl⟩)
  go_ret
  exact ⟨rfl, (HO _ _).out⟩

set_option maxRecDepth 20000 in
set_option maxHeartbeats 4000000 in
theorem ascRa_any (lo : Nat) (v : Value) (Xl : List Ra) (w : World) (hv : RasAt lo w v Xl) :
    Calls Try.prog 116 #[v, .func (.func 117) #[] #[]] w fun e w' => e = .returned (.bool (risR rRa Xl)) ∧ Below w.heap.size w w' := by
  have HV := hide hv
  have hm := hv.max
  unfold maxLen at hm
  obtain ⟨a, cap, rfl⟩ := hv.form
  clear hv
  go_enter Try.func116, Try.ntmps116
  go_wp2
  go_loopw [5] (fun i wr => ∃ m : Nat, i = .int .i64 m ∧ 1 ≤ m ∧ (m ≤ Xl.length ∨ m = 1) ∧ Below w.heap.size w wr ∧ ∀ j, j < m → risN rRa Xl j = true) (fun i _ => Xl.length + 1 - (intOf i).toNat)
  case atStart => exact ⟨1, rfl, Nat.le_refl _, Or.inr rfl, Below.refl _ _, fun j hj => by rw [show j = 0 by omega]; rfl⟩
  case round =>
    obtain ⟨m, rfl, hm1, hk, hb, hall⟩ := hrel
    have HB := hide hb
    have HA := hide hall
    clear hb hall
    by_cases hlt : m < Xl.length
    · obtain ⟨k, hkm⟩ : ∃ k, m = k + 1 := ⟨m - 1, by omega⟩
      have hlt0 : k < Xl.length := by omega
      obtain ⟨b, off, rfl, hbw, -, hc⟩ := HV.out.full' (by omega)
      have hbr : b < wr.heap.size := Nat.lt_of_lt_of_le hbw HB.out.size
      have HS : Hid (risN rRa Xl m = decide (cRa Xl[k] Xl[m] < 0)) := by
        subst hkm
        unfold Hid
        rw [cRa_neg]
        exact risN_at hlt
      obtain ⟨cs1, hr1, a1, k1, rfl, -⟩ := hc k hlt0
      obtain ⟨cs2, hr2, a2, k2, rfl, -⟩ := hc m hlt
      obtain ⟨x, hx⟩ : ∃ x, x = Xl[k] := ⟨_, rfl⟩
      obtain ⟨y, hy⟩ : ∃ y, y = Xl[m] := ⟨_, rfl⟩
      rw [← hx] at hr1 HS
      rw [← hy] at hr2 HS
      have HC0 : Hid (wr.cell? ⟨b, off + k * 2, none⟩ = some (.int .i64 x.ix)) := rng_below hr1 HB.out hbw 0 _ rfl
      have HC1 : Hid (wr.cell? ⟨b, off + k * 2 + 1, none⟩ = some (.slice a1 x.fr.length k1)) := rng_below hr1 HB.out hbw 1 _ rfl
      have HD0 : Hid (wr.cell? ⟨b, off + m * 2, none⟩ = some (.int .i64 y.ix)) := rng_below hr2 HB.out hbw 0 _ rfl
      have HD1 : Hid (wr.cell? ⟨b, off + m * 2 + 1, none⟩ = some (.slice a2 y.fr.length k2)) := rng_below hr2 HB.out hbw 1 _ rfl
      have e2 : IntKind.i64.wrap ((m : Int) - 1) = k := by rw [IntWalk.i64_left]; unfold wrap64; omega
      clear hc hkm hk hr1 hr2 hx hy
      go_wp2
      go_cut [23] (fun c wc => c = .bool (decide (0 ≤ cRa x y)) ∧ Below wr.heap.size wr wc)
      case first =>
        have xn : Nonempty (In (Up wr)) := ⟨⟨wr, Below.refl _ _⟩⟩
        have xs := fun (X : In (Up wr)) => in_self X
        have s0 : ∀ X : In (Up wr), _ := fun X => Up.cell X HC0.out
        have s1 : ∀ X : In (Up wr), _ := fun X => Up.cell X HC1.out
        have t0 : ∀ X : In (Up wr), _ := fun X => Up.cell X HD0.out
        have t1 : ∀ X : In (Up wr), _ := fun X => Up.cell X HD1.out
        have i0 : (0 : Int) ≤ (k : Int) := by omega
        have i1 : (k : Int) < (Xl.length : Int) := by omega
        have j0 : (0 : Int) ≤ (m : Int) := by omega
        have j1 : (m : Int) < (Xl.length : Int) := by omega
        refine wp_region_class (Up wr) (by kernel_rfl) (by kernel_rfl) ((Below.refl _ _).drew) ?_
        repeat (go_big_quiet_step ((go_at_call 117; rename_i X; exact (cmpRa_any x y _ _ _ _ _).mono fun _ _ h => ⟨h.1, Up.next X h.2⟩)))
        refine wpQuiet_nil ?_
        intro wn hw
        obtain ⟨X, hX⟩ := hw
        have HWN : Below wr.heap.size wr wn := by rw [hX]; exact X.h
        clear hX X s0 s1 t0 t1 xs xn
        go_wp2
        go_meet
        exact ⟨rfl, HWN⟩
      case rest =>
      obtain ⟨rfl, hbc⟩ := hcut
      have HBc := hide (bt HB.out hbc)
      clear hbc
      cases hq : decide (0 ≤ cRa x y) with
      | true =>
        have HN : Hid (risR rRa Xl = false) := range_not hlt (HS.out.trans (decide_eq_false (by have := of_decide_eq_true hq; omega)))
        go_wp2
        go_ret
        exact ⟨ret_bool HN.out.symm, HBc.out⟩
      | false =>
        have HT : Hid (risN rRa Xl m = true) := HS.out.trans (decide_eq_true (by have := of_decide_eq_false hq; omega))
        go_wp2
        go_roundw
        case rel => exact ⟨m + 1, by go_num, by omega, by omega, HBc.out, fun j hj => by
                      by_cases e : j = m
                      · rw [e]; exact HT.out
                      · exact HA.out j (by omega)⟩
        case measure => simp [intOf]; omega
    · have HT : Hid (risR rRa Xl = true) := range_all (fun i hi => HA.out i (by omega))
      go_wp2
      go_ret
      exact ⟨ret_bool HT.out.symm, HB.out⟩

def abB (of : Int) (A : List Ra) (i : Nat) : Bool := inB 1 120 (ackA A i).ix && numsB of (ackA A i).fr
theorem aok_two (of : Int) (A : List Ra) (i : Nat) (h : i < A.length) : aokB of A i = (abB of A i && risN rRa A i) := by
  unfold aokB abB
  rw [Bool.and_assoc]
  congr 2
  cases i with
  | zero => rfl
  | succ j =>
    rw [risN_at h]
    unfold rRa
    rw [ackA_at h, show j + 1 - 1 = j from rfl, ackA_at (show j < A.length by omega), Bool.eq_iff_iff]
    simp
theorem all_and {n : Nat} {p q r : Nat → Bool} (h : ∀ i, i < n → p i = (q i && r i)) : (List.range n).all p = ((List.range n).all q && (List.range n).all r) := by
  rw [Bool.eq_iff_iff, Bool.and_eq_true, List.all_eq_true, List.all_eq_true, List.all_eq_true]
  constructor
  · intro hp
    exact ⟨fun x hx => by have := hp x hx; rw [h x (by simpa using hx), Bool.and_eq_true] at this; exact this.1, fun x hx => by have := hp x hx; rw [h x (by simpa using hx), Bool.and_eq_true] at this; exact this.2⟩
  · rintro ⟨h1, h2⟩ x hx
    rw [h x (by simpa using hx), h1 x hx, h2 x hx]; rfl
theorem acks_two (of : Int) (A : List Ra) : acksB of A = ((List.range A.length).all (abB of A) && risR rRa A) := all_and (aok_two of A)

set_option maxRecDepth 20000 in
set_option maxHeartbeats 8000000 in
theorem acksI_any (lo : Nat) (v : Value) (A : List Ra) (of : Int) (w : World) (hv : RasAt lo w v A) :
    Calls Try.prog 103 #[v, .int .i64 of] w fun e w' => e = .returned (.bool (acksB of A)) ∧ Below w.heap.size w w' := by
  have HV := hide hv
  have hm := hv.max
  unfold maxLen at hm
  obtain ⟨a, cap, rfl⟩ := hv.form
  clear hv
  have HE1 := hide (acks_two of A)
  go_enter Try.func103, Try.ntmps103
  go_wp2
  go_loopw [9] (fun i wr => ∃ k : Nat, i = .int .i64 k ∧ k ≤ A.length ∧ Below w.heap.size w wr ∧ ∀ j, j < k → abB of A j = true) (fun i _ => A.length - (intOf i).toNat)
  case atStart => exact ⟨0, rfl, by omega, Below.refl _ _, fun j h => by omega⟩
  case round =>
    obtain ⟨k, rfl, hk, hb, hall⟩ := hrel
    have HAL := hide hall
    have HBr := hide hb
    clear hall hb
    by_cases hlt : k < A.length
    · obtain ⟨b, off, rfl, hbw, -, hc⟩ := HV.out.full' (by omega)
      obtain ⟨x, hx⟩ : ∃ x, x = ackA A k := ⟨_, rfl⟩
      have HDK : Hid (abB of A k = (inB 1 120 x.ix && numsB of x.fr)) := by unfold Hid abB; rw [← hx]
      obtain ⟨cs, hr, a0, k0, rfl, hf⟩ := hc k hlt
      rw [← ackA_at hlt, ← hx] at hf
      rw [← ackA_at hlt, ← hx] at hr
      have HF : Hid (RisAt lo wr (.slice a0 x.fr.length k0) x.fr) := hf.l0.below HBr.out
      have HR := rng_below hr HBr.out hbw
      have s0 : wr.cell? ⟨b, off + k * 2, none⟩ = some (.int .i64 x.ix) := HR 0 _ rfl
      have s1 : wr.cell? ⟨b, off + k * 2 + 1, none⟩ = some (.slice a0 x.fr.length k0) := HR 1 _ rfl
      have i0 : (0 : Int) ≤ (k : Int) := by omega
      have i1 : (k : Int) < (A.length : Int) := by omega
      clear hc hx hr hf HR
      cases q1 : inB 1 120 x.ix with
      | false =>
        have HNo : Hid (acksB of A = false) := by unfold Hid; rw [HE1.out, range_not hlt (by rw [HDK.out, q1]; rfl)]; rfl
        go_wp2_with (go_at_call 22; refine (within_any _ _ _ _).mono ?_; rintro e w' ⟨rfl, rfl⟩)
        go_ret
        exact ⟨ret_bool HNo.out.symm, bt HBr.out (one_al _ _)⟩
      | true =>
        cases q2 : numsB of x.fr with
        | false =>
          have HNo : Hid (acksB of A = false) := by unfold Hid; rw [HE1.out, range_not hlt (by rw [HDK.out, q1, q2]; rfl)]; rfl
          go_wp2_with (first | (go_at_call 22; refine (within_any _ _ _ _).mono ?_; rintro e w' ⟨rfl, rfl⟩) | (go_at_call 101; refine (numbersI_any lo _ x.fr of _ (HF.out.below (one_al _ _))).mono ?_; rw [q2]; rintro e w' ⟨rfl, rfl⟩))
          go_ret
          exact ⟨ret_bool HNo.out.symm, bt HBr.out (one_al _ _)⟩
        | true =>
          have HT : Hid (abB of A k = true) := by unfold Hid; rw [HDK.out, q1, q2]; rfl
          go_wp2_with (first | (go_at_call 22; refine (within_any _ _ _ _).mono ?_; rintro e w' ⟨rfl, rfl⟩) | (go_at_call 101; refine (numbersI_any lo _ x.fr of _ (HF.out.below (one_al _ _))).mono ?_; rw [q2]; rintro e w' ⟨rfl, rfl⟩))
          go_roundw
          case rel => exact ⟨k + 1, by go_num, by omega, bt HBr.out (one_al _ _), fun j hj => by
                        by_cases e : j = k
                        · rw [e]; exact HT.out
                        · exact HAL.out j (by omega)⟩
          case measure => simp [intOf]; omega
    · have HT : Hid (acksB of A = risR rRa A) := by unfold Hid; rw [HE1.out, range_all (fun i hi => HAL.out i (by omega))]; rfl
      go_wp2_with (go_at_call 116; refine (ascRa_any lo _ A _ (HV.out.below HBr.out)).mono ?_; rintro e w1 ⟨rfl, hb1⟩; have HB1 := hide hb1; clear hb1)
      go_ret
      exact ⟨ret_bool HT.out.symm, bt HBr.out HB1.out⟩
end Go.Proofs.Ytoklnkojacdciaa
