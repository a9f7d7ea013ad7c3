import Derived.Test.YtjkkbkdpoebfaaaGreatV18
namespace Go.Proofs.YtjkkbkdpoebfaaaGreat
open Go.RowKit Go.Deep

/-! draws: picks of any number, one of a list, numerals -/
set_option maxHeartbeats 1000000 in
theorem pick0_any (ρ p : Nat) (bs : List UInt8) (n : Int) (w : World) (h : Rd w ρ p bs) (hp : p ≤ 1000000000) (hn : n < 1) :
    Calls Tryz.prog 47 #[.pointer (some ⟨ρ, 0, none⟩), .int .i64 n] w fun e w' => e = .returned (.int .i64 0) ∧ Rd w' ρ (p + 1) bs ∧ Tch ρ w w' := by
  have HS : Hid (Rd (w.setCell ⟨ρ, 1, none⟩ (.int .i64 ((p + 1 : Nat) : Int))) ρ (p + 1) bs) := h.step (p + 1)
  have HT : Hid (Tch ρ w (w.setCell ⟨ρ, 1, none⟩ (.int .i64 ((p + 1 : Nat) : Int)))) := Tch.setCell _ _ _ _
  obtain ⟨v, hv, hc⟩ := h.code
  have hpl := h.place
  have hfr := h.free
  have hlt := h.lt
  obtain ⟨a, cap, rfl⟩ := hc.form
  clear h hc
  have hcast : ((p + 1 : Nat) : Int) = (p : Int) + 1 := by omega
  rw [hcast] at HS HT
  go_enter Tryz.func47, Tryz.ntmps47
  go_wp2
  go_ret
  exact ⟨rfl, HS.out, HT.out⟩
theorem pickZ_any (ρ p : Nat) (bs : List UInt8) (n : Int) (w : World) (h : Rd w ρ p bs) (hp : p ≤ 1000000000) (hn : n ≤ 100000000) :
    Calls Tryz.prog 47 #[.pointer (some ⟨ρ, 0, none⟩), .int .i64 n] w fun e w' => ∃ x : Int, e = .returned (.int .i64 x) ∧ 0 ≤ x ∧ (x < n ∨ x = 0) ∧ Rd w' ρ (p + 1) bs ∧ Tch ρ w w' := by
  by_cases h1 : 1 ≤ n
  · refine (pick_any ρ p bs n w h hp h1 hn).mono ?_
    rintro e w' ⟨x, rfl, h2, h3, h4, h5⟩
    exact ⟨x, rfl, h2, Or.inl h3, h4, h5⟩
  · refine (pick0_any ρ p bs n w h hp (by omega)).mono ?_
    rintro e w' ⟨rfl, h4, h5⟩
    exact ⟨0, rfl, Int.le_refl _, Or.inr rfl, h4, h5⟩
theorem StrsIn.tch {lo ρ : Nat} {w w' : World} {v : Value} {L : List ByteArray} (h : StrsIn lo w v L) (ht : Tch ρ w w') (hl : ρ < lo) : StrsIn lo w' v L := by
  rcases h with h | ⟨b, off, cap, h1, h2, h3, h4, h5, h6, h7⟩
  · exact Or.inl h
  · exact Or.inr ⟨b, off, cap, h1, h2, h3, Nat.lt_of_lt_of_le h4 ht.size, fun i hi => by rw [ht.cell (p := ⟨b, off + i, none⟩) h4 (by show b ≠ ρ; omega)]; exact h5 i hi, h6, h7⟩
set_option maxHeartbeats 1000000 in
theorem ofAt_any (lo ρ p : Nat) (bs : List UInt8) (v : Value) (L : List ByteArray) (w : World) (h : Rd w ρ p bs) (hp : p ≤ 1000000000) (hv : StrsIn lo w v L) (hl : ρ < lo) (h1 : 1 ≤ L.length) (h2 : L.length ≤ 1000) :
    Calls Tryz.prog 54 #[.pointer (some ⟨ρ, 0, none⟩), v] w fun e w' => (∃ s, e = .returned (.string s) ∧ s ∈ L) ∧ Rd w' ρ (p + 1) bs ∧ Tch ρ w w' := by
  have HR := hide h
  rcases hv with ⟨_, _, _, rfl⟩ | ⟨b, off, cap, rfl, hne, hm, hbw, hc, hsz, hlo⟩
  · simp at h1
  have HC := hide hc
  have hlt := h.lt
  clear h hc hsz
  go_enter Tryz.func54, Tryz.ntmps54
  go_wp2_with fail
  refine (pick_any ρ p bs L.length _ HR.out hp (by omega) (by omega)).mono ?_
  rintro e w1 ⟨x, rfl, hx0, hx1, hr1, ht1⟩
  obtain ⟨i, rfl⟩ := Int.eq_ofNat_of_zero_le hx0
  have hi : i < L.length := by omega
  have HR1 := hide hr1
  have HT1 := hide ht1
  have ck : w1.cell? ⟨b, off + i, none⟩ = some (.string L[i]) := by
    rw [ht1.cell (p := ⟨b, off + i, none⟩) hbw (by show b ≠ ρ; omega)]; exact HC.out i hi
  have HM : Hid (L[i] ∈ L) := List.getElem_mem hi
  clear hr1 ht1
  generalize L[i] = s at *
  go_wp2
  go_ret
  exact ⟨⟨s, rfl, HM.out⟩, HR1.out, HT1.out⟩
theorem conv_one (c : UInt8) (W : World) (b : Nat) (h : W.cell? ⟨b, 0, none⟩ = some (.int .u8 (c.toNat : Int))) : (convert 22 9 (.slice (some ⟨b, 0, none⟩) 1 1)).run Tryz.prog W = .ok (.string ⟨#[c]⟩) W :=
  run_convert_bytes_back (P := Tryz.prog) W 22 9 5 ⟨b, 0, none⟩ 1 [c] Tryz.underlying22 Tryz.underlying5 Tryz.underlying9 (fun i hi => by
    have e : i = 0 := by simp at hi; omega
    subst e
    simpa [Addr.add] using h)
theorem one_dig (n : Nat) : ((UInt8.ofNat (48 + n % 10)).toNat : Int) = 48 + (n : Int) % 10 := by rw [UInt8.toNat_ofNat']; omega
set_option maxRecDepth 20000 in
set_option maxHeartbeats 2000000 in
theorem l4DecN_any : ∀ (k n : Nat) (_ : k ≤ 20) (_ : n < 10 ^ (k + 1)) (_ : n ≤ 1000000000) (w : World), Calls Tryz.prog 85 #[.int .i64 n] w fun e w' => ∃ s : ByteArray, e = .returned (.string s) ∧ s.size ≤ k + 1 ∧ Below w.heap.size w w' := by
  intro k
  induction k with
  | zero =>
    intro n _ h10 hn w
    have h10' : n < 10 := h10
    have hd : ((UInt8.ofNat (48 + n)).toNat : Int) = 48 + (n : Int) := by rw [UInt8.toNat_ofNat']; omega
    have hcv : (convert 22 9 (.slice (some ⟨w.heap.size, 0, none⟩) 1 1)).run Tryz.prog (w.alloc (.cells #[.int .u8 (48 + (n : Int))] 5)) = .ok (.string ⟨#[UInt8.ofNat (48 + n)]⟩) (w.alloc (.cells #[.int .u8 (48 + (n : Int))] 5)) := conv_one _ _ _ (by rw [hd]; simp)
    generalize UInt8.ofNat (48 + n) = dg at *
    clear hd h10
    go_enter Tryz.func85, Tryz.ntmps85
    go_wp2
    go_ret
    exact ⟨_, rfl, Nat.le_refl _, one_al _ _⟩
  | succ k ih =>
    intro n hkb hk hn w
    by_cases h10 : n < 10
    · have hd : ((UInt8.ofNat (48 + n)).toNat : Int) = 48 + (n : Int) := by rw [UInt8.toNat_ofNat']; omega
      have hcv : (convert 22 9 (.slice (some ⟨w.heap.size, 0, none⟩) 1 1)).run Tryz.prog (w.alloc (.cells #[.int .u8 (48 + (n : Int))] 5)) = .ok (.string ⟨#[UInt8.ofNat (48 + n)]⟩) (w.alloc (.cells #[.int .u8 (48 + (n : Int))] 5)) := conv_one _ _ _ (by rw [hd]; simp)
      generalize UInt8.ofNat (48 + n) = dg at *
      clear hd hk ih
      go_enter Tryz.func85, Tryz.ntmps85
      go_wp2
      go_ret
      exact ⟨_, rfl, by show 1 ≤ _; omega, one_al _ _⟩
    · have hdv : ((n / 10 : Nat) : Int) = (n : Int) / 10 := by omega
      have hk2 : n / 10 < 10 ^ (k + 1) := by rw [Nat.pow_succ] at hk; omega
      have HI : Hid (∀ w, Calls Tryz.prog 85 #[.int .i64 ((n : Int) / 10)] w fun e w' => ∃ s : ByteArray, e = .returned (.string s) ∧ s.size ≤ k + 1 ∧ Below w.heap.size w w') := fun w => by
        rw [← hdv]; exact ih (n / 10) (by omega) hk2 (by omega) w
      clear hdv hk hk2
      have hd := one_dig n
      have hcv : ∀ (W : World) (b : Nat), W.cell? ⟨b, 0, none⟩ = some (.int .u8 (48 + (n : Int) % 10)) → (convert 22 9 (.slice (some ⟨b, 0, none⟩) 1 1)).run Tryz.prog W = .ok (.string ⟨#[UInt8.ofNat (48 + n % 10)]⟩) W := fun W b h => conv_one _ _ _ (by rw [hd]; exact h)
      generalize UInt8.ofNat (48 + n % 10) = dg at *
      clear hd ih
      go_enter Tryz.func85, Tryz.ntmps85
      go_wp2
      have hw1 : IntKind.i64.wrap ((n : Int) / 10) = (n : Int) / 10 := by rw [IntKind.wrap_i64]; omega
      have hw2 : (n : Int).tmod 10 = (n : Int) % 10 := Int.tmod_eq_emod_of_nonneg (by omega)
      have hw3 : IntKind.i64.wrap (48 + (n : Int) % 10) = 48 + (n : Int) % 10 := by rw [IntKind.wrap_i64]; omega
      have hw4 : IntKind.u8.wrap (48 + (n : Int) % 10) = 48 + (n : Int) % 10 := by rw [show IntKind.u8.wrap (48 + (n : Int) % 10) = (48 + (n : Int) % 10) % 256 from rfl]; omega
      have hal : ∀ (W : World) (o : Obj), Hid (Below w.heap.size w W) → Hid (Below w.heap.size w (W.alloc o)) := fun W o h => h.out.alloc h.out.size _
      have htr : ∀ (W W' : World), Hid (Below w.heap.size w W) → Below W.heap.size W W' → Hid (Below w.heap.size w W') := fun W W' h h' => bt h.out h'
      have HAL := hide hal
      have HTR := hide htr
      clear hal htr
      go_region_held (fun W => Hid (Below w.heap.size w W))
        (first
          | (exact (Below.refl _ _).drew)
          | (exact HAL.out _ _ (by assumption))
          | (exact HTR.out _ _ (by assumption) (by assumption))
          | assumption)
        (first
          | (go_at_call 85
             refine (HI.out _).mono ?_
             rintro e w1 ⟨s, rfl, hss, hb1⟩
             have had : ∀ W, (Op.stringOp .add s ⟨#[dg]⟩).run Tryz.prog W = .ok (.string (s ++ ⟨#[dg]⟩)) W := fun W => run_string_add_sum (P := Tryz.prog) (w := W) s ⟨#[dg]⟩ (by have e1 : (⟨#[dg]⟩ : ByteArray).size = 1 := rfl; omega)
             have HZS : Hid ((s ++ ⟨#[dg]⟩ : ByteArray).size ≤ k + 1 + 1) := by unfold Hid; rw [ByteArray.size_append]; have e1 : (⟨#[dg]⟩ : ByteArray).size = 1 := rfl; omega
             try (have hc2 : w1.cell? ⟨w.heap.size, 0, none⟩ = some (.int .u8 (48 + (n : Int) % 10)) := by rw [hb1.cell (p := ⟨w.heap.size, 0, none⟩) (by simp)]; simp)))
      all_goals
        go_wp2
        go_ret
        exact ⟨_, rfl, HZS.out, Hid.out (by assumption)⟩
end Go.Proofs.YtjkkbkdpoebfaaaGreat
