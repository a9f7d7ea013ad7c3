import Derived.Test.YtobijdenhbpdfaaDoorU1
import Derived.Test.YtobijdenhbpdfaaDoorSh
import Derived.Test.YtobijdenhbpdfaaDoorT8
namespace Go.Proofs.YtobijdenhbpdfaaDoor
open Go.RowKit Go.Deep

theorem conv_one (c : UInt8) (W : World) (b : Nat) (h : W.cell? ⟨b, 0, none⟩ = some (.int .u8 (c.toNat : Int))) : (convert 22 9 (.slice (some ⟨b, 0, none⟩) 1 1)).run Tryd.prog W = .ok (.string ⟨#[c]⟩) W :=
  run_convert_bytes_back (P := Tryd.prog) W 22 9 5 ⟨b, 0, none⟩ 1 [c] Tryd.underlying22 Tryd.underlying5 Tryd.underlying9 (fun i hi => by
    have e : i = 0 := by simp at hi; omega
    subst e
    simpa [Addr.add] using h)
theorem add_digit (l : List UInt8) (c : UInt8) (hl : l.length < 1000000000000) (W : World) : (Op.stringOp .add ⟨l.toArray⟩ ⟨#[c]⟩).run Tryd.prog W = .ok (.string ⟨(l ++ [c]).toArray⟩) W := by
  have := run_string_add_sum (P := Tryd.prog) (w := W) ⟨l.toArray⟩ ⟨#[c]⟩ (by simp [ByteArray.size]; omega)
  have e : (⟨l.toArray⟩ ++ ⟨#[c]⟩ : ByteArray) = ⟨(l ++ [c]).toArray⟩ := by
    apply ByteArray.ext
    rw [ByteArray.data_append]
    simp
  rw [this, e]
theorem add_letter (a : UInt8) (l : List UInt8) (hl : l.length < 1000000000000) (W : World) : (Op.stringOp .add ⟨#[a]⟩ ⟨l.toArray⟩).run Tryd.prog W = .ok (.string ⟨(a :: l).toArray⟩) W := by
  have := run_string_add_sum (P := Tryd.prog) (w := W) ⟨#[a]⟩ ⟨l.toArray⟩ (by simp [ByteArray.size]; omega)
  rw [this]
  rfl

theorem one_dig (n : Nat) : ((UInt8.ofNat (48 + n % 10)).toNat : Int) = 48 + (n : Int) % 10 := by rw [UInt8.toNat_ofNat']; omega

set_option maxRecDepth 20000 in
set_option maxHeartbeats 2000000 in
theorem l4Dec_any : ∀ (n : Nat) (_ : n ≤ 1000000000) (w : World), Calls Tryd.prog 16 #[.int .i64 n] w fun e w' => e = .returned (.string ⟨(Lib.decDigits n).toArray⟩) ∧ Below w.heap.size w w' := by
  intro n
  induction n using Nat.strongRecOn with
  | _ n ih =>
    intro hn w
    by_cases h10 : n < 10
    · have HD := hide (dec_small h10)
      have hd : ((UInt8.ofNat (48 + n)).toNat : Int) = 48 + (n : Int) := by rw [UInt8.toNat_ofNat']; omega
      have hcv : (convert 22 9 (.slice (some ⟨w.heap.size, 0, none⟩) 1 1)).run Tryd.prog (w.alloc (.cells #[.int .u8 (48 + (n : Int))] 5)) = .ok (.string ⟨#[UInt8.ofNat (48 + n)]⟩) (w.alloc (.cells #[.int .u8 (48 + (n : Int))] 5)) := conv_one _ _ _ (by rw [hd]; simp)
      generalize UInt8.ofNat (48 + n) = dg at *
      clear hd
      go_enter Tryd.func16, Tryd.ntmps16
      go_wp2
      go_ret
      exact ⟨by rw [HD.out]; rfl, one_al _ _⟩
    · have HD := hide (dec_big h10)
      have hlen : (Lib.decDigits (n / 10)).length < 1000000000000 := by have := dec_len (n / 10); omega
      have hdv : ((n / 10 : Nat) : Int) = (n : Int) / 10 := by omega
      have HI : Hid (∀ w, Calls Tryd.prog 16 #[.int .i64 ((n : Int) / 10)] w fun e w' => e = .returned (.string ⟨(Lib.decDigits (n / 10)).toArray⟩) ∧ Below w.heap.size w w') := fun w => by
        rw [← hdv]; exact ih (n / 10) (by omega) (by omega) w
      clear hdv
      have hd := one_dig n
      have hcv : ∀ (W : World) (b : Nat), W.cell? ⟨b, 0, none⟩ = some (.int .u8 (48 + (n : Int) % 10)) → (convert 22 9 (.slice (some ⟨b, 0, none⟩) 1 1)).run Tryd.prog W = .ok (.string ⟨#[UInt8.ofNat (48 + n % 10)]⟩) W := fun W b h => conv_one _ _ _ (by rw [hd]; exact h)
      have had : ∀ W, (Op.stringOp .add ⟨(Lib.decDigits (n / 10)).toArray⟩ ⟨#[UInt8.ofNat (48 + n % 10)]⟩).run Tryd.prog W = .ok (.string ⟨(Lib.decDigits (n / 10) ++ [UInt8.ofNat (48 + n % 10)]).toArray⟩) W := fun W => add_digit _ _ hlen W
      generalize UInt8.ofNat (48 + n % 10) = dg at *
      clear hd ih hlen
      go_enter Tryd.func16, Tryd.ntmps16
      go_wp2
      have hw1 : IntKind.i64.wrap ((n : Int) / 10) = (n : Int) / 10 := by rw [IntKind.wrap_i64]; omega
      have hw2 : (n : Int).tmod 10 = (n : Int) % 10 := Int.tmod_eq_emod_of_nonneg (by omega)
      have hw3 : IntKind.i64.wrap (48 + (n : Int) % 10) = 48 + (n : Int) % 10 := by rw [IntKind.wrap_i64]; omega
      have hw4 : IntKind.u8.wrap (48 + (n : Int) % 10) = 48 + (n : Int) % 10 := by rw [show IntKind.u8.wrap (48 + (n : Int) % 10) = (48 + (n : Int) % 10) % 256 from rfl]; omega
      have hal : ∀ (W : World) (o : Obj), Hid (Below w.heap.size w W) → Hid (Below w.heap.size w (W.alloc o)) := fun W o h => h.out.alloc h.out.size _
      have htr : ∀ (W W' : World), Hid (Below w.heap.size w W) → Below W.heap.size W W' → Hid (Below w.heap.size w W') := fun W W' h h' => bt h.out h'
      have HAL := hide hal
      have HTR := hide htr
      clear hal htr
      go_region_held (fun W => Hid (Below w.heap.size w W))
        (first
          | (exact (Below.refl _ _).drew)
          | (exact HAL.out _ _ (by assumption))
          | (exact HTR.out _ _ (by assumption) (by assumption))
          | assumption)
        (first
          | (go_at_call 16
             refine (HI.out _).mono ?_
             rintro e w1 ⟨rfl, hb1⟩
             try (have hc2 : w1.cell? ⟨w.heap.size, 0, none⟩ = some (.int .u8 (48 + (n : Int) % 10)) := by rw [hb1.cell (p := ⟨w.heap.size, 0, none⟩) (by simp)]; simp)))
      all_goals
        go_wp2
        go_ret
        exact ⟨by rw [HD.out]; rfl, Hid.out (by assumption)⟩

set_option maxHeartbeats 1000000 in
theorem untaken_any (l : UInt8) (v : Value) (L : List ByteArray) (w : World) (hv : StrsAt w v L) (hn : L.length ≤ 900000000) (htab : Lib.TabBelow Tryd.prog w.heap.size w "internal/strconv.uint64pow10" .u64 Lib.pow10Tab) :
    Calls Tryd.prog 20 #[.string ⟨#[l]⟩, v] w fun e w' => ∃ s, e = .returned (.string s) ∧ Below w.heap.size w w' ∧ IsNew (hasB L) l s := by
  have HV := hide hv
  have HT := hide htab
  obtain ⟨a, cap, rfl⟩ := hv.form'
  clear hv htab
  go_enter Tryd.func20, Tryd.ntmps20
  go_wp2
  go_loopw [5] (fun i wr => ∃ k : Nat, i = .int .i64 k ∧ Below w.heap.size w wr ∧ ∀ m, m < k → hasB L (numbered l m) = true) (fun i _ => L.length + 1 - (intOf i).toNat)
  case atStart => exact ⟨0, rfl, Below.refl _ _, fun m h => by omega⟩
  case round =>
    obtain ⟨k, rfl, hb, hall⟩ := hrel
    have HA := hide hall
    have HB := hide hb
    have hk := few hall
    have had : ∀ W, (Op.stringOp .add ⟨#[l]⟩ ⟨(Lib.decDigits k).toArray⟩).run Tryd.prog W = .ok (.string (numbered l k)) W := fun W => add_letter _ _ (by have := dec_len k; omega) W
    clear hall hb
    go_wp2_with fail
    refine (itoa_any k (by omega) _ (HT.out.on HB.out).here).mono ?_
    rintro e w1 ⟨rfl, hb1⟩
    have HB1 : Hid (Below w.heap.size w w1) := bt HB.out hb1
    clear hb1
    go_wp2_with fail
    refine (contains_any _ L (numbered l k) _ (HV.out.below HB1.out)).mono ?_
    rintro e w2 ⟨rfl, rfl⟩
    cases hh : hasB L (numbered l k) with
    | true =>
      have HN : Hid (∀ m, m < k + 1 → hasB L (numbered l m) = true) := fun m hm => by
        by_cases e : m = k
        · subst e; exact hh
        · exact HA.out m (by omega)
      have hk1 := few HN.out
      go_wp2
      go_roundw
      case rel => exact ⟨k + 1, by go_num, HB1.out, HN.out⟩
      case measure => simp [intOf]; omega
    | false =>
      have HNW : Hid (IsNew (hasB L) l (numbered l k)) := ⟨k, rfl, hh, HA.out⟩
      go_wp2_with fail
      refine (itoa_any k (by omega) _ (HT.out.on HB1.out).here).mono ?_
      rintro e w3 ⟨rfl, hb3⟩
      have HB3 : Hid (Below w.heap.size w w3) := bt HB1.out hb3
      clear hb3
      go_wp2
      go_ret
      exact ⟨_, rfl, HB3.out, HNW.out⟩
end Go.Proofs.YtobijdenhbpdfaaDoor

