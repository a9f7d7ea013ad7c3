import Derived.Test.YtlnlodleokobeaaBM5
import Derived.Test.YtlnlodleokobeaaBT2
import Derived.Test.YtlnlodleokobeaaBG2
import Derived.Test.YtlnlodleokobeaaBK1
import Derived.Test.YtlnlodleokobeaaBM2
import Derived.Test.YtlnlodleokobeaaBMK
import Derived.Test.YtlnlodleokobeaaBDA
import Derived.Test.YtlnlodleokobeaaBSA
import Derived.Test.YtlnlodleokobeaaBKA
import Derived.Test.YtlnlodleokobeaaBN12
import Derived.Test.YtlnlodleokobeaaBT4
import Derived.Test.YtlnlodleokobeaaBL1
import Derived.Test.YtlnlodleokobeaaBNA
import Derived.Test.YtlnlodleokobeaaBN2
import Derived.Test.YtlnlodleokobeaaBBO
import Derived.Test.YtlnlodleokobeaaBWB
import Derived.Test.YtlnlodleokobeaaBC2
import Derived.Test.YtlnlodleokobeaaBT1
import Derived.Test.YtlnlodleokobeaaBWA
namespace Go.Proofs.Ytlnlodleokobeaa
open Go.RowKit Go.Deep Go.Maps

theorem ranges_kept_below {w wr w1 : World} {r : Nat} (h : Below w.heap.size w wr) (hg : wr.grownBy w1 (some r)) (hr : w.heap.size ≤ r) : Below w.heap.size w w1 := by
  have hz := h.size
  exact h.trans ⟨hg.os, hg.tape, hg.output, hg.size, fun k hk => hg.block k (by omega) (fun e => by have := Option.some.inj e; omega)⟩
theorem grown_of_below' {w w' : World} (h : Below w.heap.size w w') : w.grownBy w' none :=
  ⟨h.os, h.tape, h.output, h.size, fun k hk _ => h.block k hk⟩

section
variable (lo : Nat) (tv : Value) (Ts : List Tm) (team r : ByteArray) (T : List Tri) (w : World)

set_option maxRecDepth 100000 in
set_option maxHeartbeats 2000000 in
theorem sumsUnder_any {D : DataW Unit} {b n : Nat} (hT : TmsAt lo w tv Ts) (hown : w.ownsMap Try.prog 148 (plainElem Try.prog 3) b n D) (hs : SumOk T D) (hok : TriOk T) :
    Calls Try.prog 43 #[.map (some b), tv, .string team, .string r] w
      fun e w' => e = .returned (.int .i64 (wrap64 (T.map (ugood Ts team r)).sum)) ∧ Below w.heap.size w w' := by
  have HT := hide hT
  have HS := hide hs
  have HK := hide hok
  obtain ⟨ta, tcap, rfl⟩ := hT.form
  clear hT hs hok
  go_enter Try.func43, Try.ntmps43
  go_wp2_with (first
    | (at_range; refine wpList_range_own _ rfl _ 92 rfl 148 3 accKeyed Try.underlying92 _ b n _ rfl hown ?_; intro w0 hrg0 hg0 hs0)
    | go_in)
  go_frame
  go_loopw [9] (fun s wr => ∃ (left : Lit → Bool) (cnt : Nat), wr.ranges Try.prog 148 (plainElem Try.prog 3) b w.heap.size n D left cnt ∧ s = .int .i64 (wrap64 (usum Ts team r T left)) ∧ Below w.heap.size w wr)
    (fun _ wr => wr.rangeLeft b w.heap.size)
  case atStart => exact ⟨_, _, hrg0, by rw [usum_start HS.out]; simp [wrap64], ⟨hg0.os, hg0.tape, hg0.output, hg0.size, fun k hk => hg0.block k hk (by simp)⟩⟩
  case round =>
    obtain ⟨left, cnt, hrg, rfl, hb⟩ := hrel
    have HB := hide hb
    clear hb
    go_wp2_with (first
      | (at_next; refine wpList_next_ranges _ rfl _ rfl 148 accKeyed (plainElem Try.prog 3) (fun p : ByteArray × ByteArray => .agg #[.string p.1, .string p.2]) (Value.int .i64) (fun key kl h => by obtain ⟨x, y, rfl, _⟩ := accTwo.inv h; exact ⟨(x, y), rfl⟩) (fun v y hv => by obtain ⟨c, rfl, _⟩ := plainElem_int_inv Try.underlying3 hv; exact ⟨c, rfl⟩) b w.heap.size n _ _ _ rfl hrg ?_ ?_)
      | go_in)
    · intro _ hl0
      go_wp2
      go_ret
      exact ⟨ret_int (by rw [usum_end hl0]), HB.out⟩
    · intro xa xb c kl yd yp w1 cnt1 hkey hlk hv hat hrg1 hlt hg1 hs1 hen
      obtain ⟨xa', xb', exy, rfl, sa, sb⟩ := accTwo.inv hkey
      have e12 : xa = xa' ∧ xb = xb' := by simpa using exy
      obtain ⟨rfl, rfl⟩ := e12
      clear exy hkey
      have hbo := hrg1.owns.lt
      obtain ⟨c', ec, ey, hwc⟩ := plainElem_int_inv Try.underlying3 hv
      have hcc : c = wrap64 (ksum T xa xb) := by
        have h1 := hat (.lit (.int .i64 0))
        rw [HS.out.sums xa xb sa sb] at h1
        have h2 : yd = .lit (.int .i64 c') := congrArg Prod.fst ey
        rw [h2] at h1
        injection h1 with h1
        injection h1 with _ h1
        injection ec with _ ec
        rw [ec, h1]
      have HST := hide (usum_step Ts team r sa sb hlk T HK.out)
      have HB1 : Hid (Below w.heap.size w w1) := ranges_kept_below HB.out hg1 (Nat.le_refl _)
      have HRG1 := hide hrg1
      clear hv hat ec ey hwc hlk hrg1 hg1
      cases hq : (xb.toList == r.toList) with
      | false =>
        have HE : Hid (usum Ts team r T (fun z => left z && !z.sameKey (accL xa xb)) = usum Ts team r T left) := by unfold Hid; rw [HST.out, hq]; simp
        go_wp2
        go_roundw
        case rel => exact ⟨_, cnt1, HRG1.out.alloc _, by rw [HE.out], HB1.out.trans ((one_al _ _).mono HB1.out.size)⟩
        case measure => rw [(HRG1.out.alloc _).left_eq, hrg.left_eq]; exact hlt
      | true =>
        go_wp2_with fail
        refine (implUnder_any lo _ Ts xa team _ ((HT.out.below HB1.out).below (one_al _ _))).mono ?_
        rintro e w2 ⟨rfl, hb2⟩
        have HRG2 := hide (HRG1.out.kept (((World.grownBy_alloc w1 _ none)).trans (grown_of_below' hb2)) (by simp) (by simp))
        have HB2 : Hid (Below w.heap.size w w2) := (HB1.out.trans ((one_al _ _).mono HB1.out.size)).trans (hb2.mono ((HB1.out.trans ((one_al _ _).mono HB1.out.size)).size))
        clear hb2
        cases hu : underB Ts xa team with
        | false =>
          have HE : Hid (usum Ts team r T (fun z => left z && !z.sameKey (accL xa xb)) = usum Ts team r T left) := by unfold Hid; rw [HST.out, hq, hu]; simp
          go_wp2
          go_roundw
          case rel => exact ⟨_, cnt1, HRG2.out, by rw [HE.out], HB2.out⟩
          case measure => rw [HRG2.out.left_eq, hrg.left_eq]; exact hlt
        | true =>
          have HE : Hid (usum Ts team r T (fun z => left z && !z.sameKey (accL xa xb)) = usum Ts team r T left + ksum T xa xb) := by unfold Hid; rw [HST.out, hq, hu]; simp
          go_wp2
          go_roundw
          case rel => exact ⟨_, cnt1, HRG2.out, by rw [HE.out, wrap_add2], HB2.out⟩
          case measure => rw [HRG2.out.left_eq, hrg.left_eq]; exact hlt
end
end Go.Proofs.Ytlnlodleokobeaa

