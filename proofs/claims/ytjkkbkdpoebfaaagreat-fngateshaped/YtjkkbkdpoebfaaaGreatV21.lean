import Derived.Test.YtjkkbkdpoebfaaaGreatV20
namespace Go.Proofs.YtjkkbkdpoebfaaaGreat
open Go.RowKit Go.Deep

set_option maxHeartbeats 1000000 in
theorem l4DecZ_any (n : Int) (h0 : -1 ≤ n) (h1 : n ≤ 1000000000) (w : World) : Calls Tryz.prog 85 #[.int .i64 n] w fun e w' => ∃ s : ByteArray, e = .returned (.string s) ∧ s.size ≤ 10 ∧ Below w.heap.size w w' := by
  by_cases h : 0 ≤ n
  · obtain ⟨k, rfl⟩ := Int.eq_ofNat_of_zero_le h
    refine (l4DecN_any 9 k (by omega) (by omega) (by omega) w).mono ?_
    rintro e w' ⟨s, h1, h2, h3⟩
    exact ⟨s, h1, h2, h3⟩
  · obtain rfl : n = -1 := by omega
    have hcv : (convert 22 9 (.slice (some ⟨w.heap.size, 0, none⟩) 1 1)).run Tryz.prog (w.alloc (.cells #[.int .u8 47] 5)) = .ok (.string ⟨#[47]⟩) (w.alloc (.cells #[.int .u8 47] 5)) := conv_one 47 _ _ (by simp)
    clear h0 h1 h
    go_enter Tryz.func85, Tryz.ntmps85
    go_wp2
    go_ret
    exact ⟨_, rfl, by decide, one_al _ _⟩
set_option maxHeartbeats 1000000 in
theorem l1ManyZ_any (s : ByteArray) (n : Int) (w : World) (hn : n ≤ 1000010) (hs : s.size ≤ 1) :
    Calls Tryz.prog 88 #[.string s, .int .i64 n] w fun e w' => w' = w ∧ ∃ o, e = .returned (.string o) ∧ o.size ≤ 1000010 := by
  by_cases h : 0 ≤ n
  · obtain ⟨k, rfl⟩ := Int.eq_ofNat_of_zero_le h
    have hm : s.size * k ≤ 1 * k := Nat.mul_le_mul_right _ hs
    refine (l1Many_any s k w (by omega) (by omega) (by omega)).mono ?_
    rintro e w' ⟨h1, o, h2, h3⟩
    exact ⟨h1, o, h2, by omega⟩
  · have hn0 : ¬ 0 < n := by omega
    go_enter Tryz.func88, Tryz.ntmps88
    go_wp2
    go_loopw [0, 1, 5] (fun a b c wr => wr = w ∧ a = .string s ∧ b = .int .i64 n ∧ c = .string ⟨#[]⟩) (fun _ _ _ _ => 0)
    case atStart => exact ⟨rfl, rfl, rfl, rfl⟩
    case round =>
      obtain ⟨rfl, rfl, rfl, rfl⟩ := hrel
      go_wp2
      go_ret
      exact ⟨rfl, _, rfl, by decide⟩
set_option maxRecDepth 20000 in
set_option maxHeartbeats 2000000 in
theorem l1Odd_any (ρ p : Nat) (bs : List UInt8) (w : World) (h : Rd w ρ p bs) (hp : p ≤ 900000000) :
    Calls Tryz.prog 53 #[.pointer (some ⟨ρ, 0, none⟩)] w fun e w' => ∃ s : ByteArray, e = .returned (.string s) ∧ s.size ≤ 1000 ∧ Rd w' ρ (p + 3) bs ∧ Tch ρ w w' := by
  have HR := hide h
  clear h
  go_enter Tryz.func53, Tryz.ntmps53
  go_wp2_with fail
  refine (pick_any ρ p bs 2 w HR.out (by omega) (by decide) (by decide)).mono ?_
  rintro e w1 ⟨x1, rfl, hx0, hx1, hr, ht⟩
  have HT := hide ht
  replace HR := hide hr
  clear hr ht
  have hx10 := hx0
  obtain ⟨n1, rfl⟩ := Int.eq_ofNat_of_zero_le hx10
  have hw1 : wrap64 (16 + (n1 : Int)) = 16 + (n1 : Int) := by unfold wrap64; omega
  have E1 : Hid ((16 + (n1 : Int)) = ((16 + n1 : Nat) : Int)) := by unfold Hid; omega
  go_wp2_with fail
  rw [E1.out]
  refine (l1Many_any ⟨#[110]⟩ (16 + n1) w1 (by show 1 * _ ≤ _; omega) (by omega) (by decide)).mono ?_
  rintro e w'1 ⟨hw, o1, rfl, ho1⟩
  have := hw.symm
  subst this
  have HO1 : Hid (o1.size ≤ 1000) := by unfold Hid; rw [ho1]; show 1 * _ ≤ _; omega
  clear hw1 ho1 hw
  go_wp2_with fail
  refine (pick_any ρ _ bs 2 _ HR.out (by omega) (by decide) (by decide)).mono ?_
  rintro e w2 ⟨x2, rfl, hx20, hx21, hr, ht⟩
  replace HT := hide (HT.out.trans ht)
  replace HR := hide hr
  clear hr ht
  obtain ⟨n2, rfl⟩ := Int.eq_ofNat_of_zero_le hx20
  have hw2 : wrap64 (40 + (n2 : Int)) = 40 + (n2 : Int) := by unfold wrap64; omega
  have E2 : Hid ((40 + (n2 : Int)) = ((40 + n2 : Nat) : Int)) := by unfold Hid; omega
  go_wp2_with fail
  rw [E2.out]
  refine (l1Many_any ⟨#[116]⟩ (40 + n2) w2 (by show 1 * _ ≤ _; omega) (by omega) (by decide)).mono ?_
  rintro e w'2 ⟨hw, o2, rfl, ho2⟩
  have := hw.symm
  subst this
  have HO2 : Hid (o2.size ≤ 1000) := by unfold Hid; rw [ho2]; show 1 * _ ≤ _; omega
  clear hw2 ho2 hw
  go_wp2_with fail
  refine (ofBuilt_any ρ _ bs _ _ 16 _ HR.out (by omega) (by simp [isS]; exact ⟨by decide, by decide, by decide, by decide, by decide, by decide, by decide, by decide, by decide, by decide, by decide, by decide, by decide, HO1.out, HO2.out, by decide⟩) rfl (by decide) (by decide)).mono ?_
  rintro e w3 ⟨s, rfl, hs, hr, ht⟩
  have H := hide (And.intro hs (And.intro hr ht))
  clear hs hr ht
  go_wp2
  go_ret
  exact ⟨s, rfl, H.out.1, H.out.2.1, HT.out.trans H.out.2.2⟩
end Go.Proofs.YtjkkbkdpoebfaaaGreat
