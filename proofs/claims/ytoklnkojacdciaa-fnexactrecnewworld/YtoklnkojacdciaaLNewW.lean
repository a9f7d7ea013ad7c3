
import Derived.Test.YtoklnkojacdciaaNV3
namespace Go.Proofs.Ytoklnkojacdciaa
open Go.RowKit Go.Deep

theorem newW_len (n : Int) : (newW n).length ≤ 5 := by
  unfold newW
  split
  · rename_i h
    rw [newP_len]
    unfold inB at h
    have := of_decide_eq_true h
    omega
  · simp
theorem wd_of {w : World} {lo hi : Nat} {a : Option Addr} {m c : Nat} {L : List Nr} (h : NRow nrL 18 w lo hi (.slice a m c) L) (hm : m = L.length) : WdC 0 w [.slice a m c, .slice none 0 0, .slice none 0 0] ⟨L.map nrU, [], []⟩ := by
  subst hm
  have hr := h.rrs.mono (Nat.zero_le _)
  refine ⟨a, c, none, 0, none, 0, by simp [wdL], ⟨?_, Or.inl ⟨_, _, rfl, rfl⟩, Or.inl ⟨_, _, rfl, rfl⟩⟩⟩
  show RrsAt 0 w (.slice a (L.map nrU).length c) (L.map nrU)
  rw [List.length_map]
  exact hr

set_option maxRecDepth 20000 in
set_option maxHeartbeats 8000000 in
theorem law_neww (n : Int) (w : World) : Calls Try.prog 3 #[.int .i64 n] w fun e w' => e = .returned (.bool true) ∧ Below w.heap.size w w' := by
  have hl5 := newW_len n
  obtain ⟨L, hL⟩ : ∃ L, L = newW n := ⟨_, rfl⟩
  have HL := hide hL
  rw [← hL] at hl5
  clear hL
  obtain ⟨m, hm⟩ : ∃ m, m = L.length := ⟨_, rfl⟩
  rw [← hm] at hl5
  have HM := hide hm
  clear hm
  go_enter Try.func3, Try.ntmps3
  go_wp2_with fail
  refine (specNewW_any n _).mono ?_
  rintro e w1 ⟨v, rfl, hb, hr⟩
  rw [← HL.out] at hr
  obtain ⟨a1, c1, rfl⟩ := hr.form
  rw [← HM.out] at hr ⊢
  have HB : Hid (Below w.heap.size w w1) := hb
  have HB0 : Hid (w.heap.size ≤ w1.heap.size) := hb.size
  have R1 := hide hr
  clear hb hr
  go_wp2_with fail
  generalize hW : w1.alloc _ = W1
  have B3 : Hid (Box W1 w1.heap.size #[.slice a1 m c1, .slice none 0 0, .slice none 0 0]) := by unfold Hid; rw [← hW]; exact Box.new _ _ _ _ rfl
  have hb : Below w1.heap.size w1 W1 := by rw [← hW]; exact one_al _ _
  replace HB := hide (bt HB.out hb)
  replace R1 := hide (R1.out.below hb)
  have hs1 : w1.heap.size < W1.heap.size := B3.out.lt
  clear hW hb
  refine (implNewW_any n _).mono ?_
  rintro e w2 ⟨v, rfl, hb, hr⟩
  rw [← HL.out] at hr
  obtain ⟨a2, c2, rfl⟩ := hr.form
  rw [← HM.out] at hr ⊢
  have R2 := hide hr
  replace HB := hide (bt HB.out hb)
  replace R1 := hide (R1.out.below hb)
  replace B3 := hide (B3.out.on hb)
  have hs2 : W1.heap.size ≤ w2.heap.size := hb.size
  clear hb hr
  go_upto_region 3 with fail
  generalize hW : w2.alloc _ = W2
  have B4 : Hid (Box W2 w2.heap.size #[.slice a2 m c2, .slice none 0 0, .slice none 0 0]) := by unfold Hid; rw [← hW]; exact Box.new _ _ _ _ rfl
  have hb : Below w2.heap.size w2 W2 := by rw [← hW]; exact one_al _ _
  replace HB := hide (bt HB.out hb)
  replace R1 := hide (R1.out.below hb)
  replace R2 := hide (R2.out.below hb)
  replace B3 := hide (B3.out.on hb)
  clear hW hb
  generalize hβ1 : w1.heap.size = β1 at *
  generalize hβ2 : w2.heap.size = β2 at *
  generalize hγ : W1.heap.size = γ at *
  have g3 := B3.out.cell
  have g4 := B4.out.cell
  go_wp2_with fail
  clear g3 g4
  refine (eqWd_c 0 0 [.slice a2 m c2, .slice none 0 0, .slice none 0 0] [.slice a1 m c1, .slice none 0 0, .slice none 0 0] ⟨L.map nrU, [], []⟩ _ (wd_of R2.out HM.out) (wd_of R1.out HM.out)).mono ?_
  rintro e w3 ⟨rfl, hb⟩
  replace HB := hide (bt HB.out hb)
  replace R1 := hide (R1.out.below hb)
  replace R2 := hide (R2.out.below hb)
  replace B3 := hide (B3.out.on hb)
  replace B4 := hide (B4.out.on hb)
  clear hb
  have g4 := B4.out.cell
  go_wp2_with fail
  clear g4
  have hlt4 : β2 < w3.heap.size := B4.out.lt
  refine (markW_any _ _ _ L 1 _ R2.out (by omega) (by rw [← HM.out]; exact hl5) (by omega) (by omega)).mono ?_
  rintro e w4 ⟨rfl, ht, hr⟩
  rw [← HM.out] at hr ⊢
  clear R2
  have R2 := hide hr
  have HB4 : Hid (Below w.heap.size w w4) := HB.out.trans ((ht.under (by omega)).mono (by have := HB0.out; omega))
  replace R1 := hide (R1.out.touch ht (Or.inl (by omega)))
  replace B3 := hide (B3.out.tch2 ht (Or.inl (by omega)))
  replace B4 := hide (B4.out.tch2 ht (Or.inr (by omega)))
  clear ht hr HB
  have g4 := B4.out.cell
  go_wp2_with fail
  clear g4
  refine (heldW_any _ _ _ m 1 _ R2.out hl5 (by omega) (by omega)).mono ?_
  rintro e w5 ⟨rfl, hb⟩
  have HB := hide (bt HB4.out hb)
  replace R1 := hide (R1.out.below hb)
  replace R2 := hide (R2.out.below hb)
  replace B3 := hide (B3.out.on hb)
  replace B4 := hide (B4.out.on hb)
  clear hb HB4
  obtain ⟨q, hq⟩ : ∃ q, q = (1 : Int) + 11 * (m : Int) := ⟨_, rfl⟩
  rw [← hq]
  have hq0 : ¬ q < 0 := by omega
  have HQ := hide hq
  clear hq
  go_wp2_with fail
  refine (implNewW_any n _).mono ?_
  rintro e w6 ⟨v, rfl, hb, hr⟩
  rw [← HL.out] at hr
  obtain ⟨a3, c3, rfl⟩ := hr.form
  rw [← HM.out] at hr ⊢
  have R3 := hide hr
  replace HB := hide (bt HB.out hb)
  replace R1 := hide (R1.out.below hb)
  replace R2 := hide (R2.out.below hb)
  replace B3 := hide (B3.out.on hb)
  replace B4 := hide (B4.out.on hb)
  clear hb hr
  go_upto_region 14 with fail
  generalize hW : w6.alloc _ = W6
  have B7 : Hid (Box W6 w6.heap.size #[.slice a3 m c3, .slice none 0 0, .slice none 0 0]) := by unfold Hid; rw [← hW]; exact Box.new _ _ _ _ rfl
  have hb : Below w6.heap.size w6 W6 := by rw [← hW]; exact one_al _ _
  replace HB := hide (bt HB.out hb)
  replace R1 := hide (R1.out.below hb)
  replace R2 := hide (R2.out.below hb)
  replace R3 := hide (R3.out.below hb)
  replace B3 := hide (B3.out.on hb)
  replace B4 := hide (B4.out.on hb)
  clear hW hb
  generalize hβ6 : w6.heap.size = β6 at *
  have g3 := B3.out.cell
  have g7 := B7.out.cell
  go_wp2_with fail
  clear g3 g7
  refine (eqWd_c 0 0 [.slice a3 m c3, .slice none 0 0, .slice none 0 0] [.slice a1 m c1, .slice none 0 0, .slice none 0 0] ⟨L.map nrU, [], []⟩ _ (wd_of R3.out HM.out) (wd_of R1.out HM.out)).mono ?_
  rintro e w7 ⟨rfl, hb⟩
  replace HB := hide (bt HB.out hb)
  replace R2 := hide (R2.out.below hb)
  replace B4 := hide (B4.out.on hb)
  clear hb R1 R3 B3 B7
  have g4 := B4.out.cell
  go_wp2_with fail
  clear g4
  refine (heldW_any _ _ _ m 1 _ R2.out hl5 (by omega) (by omega)).mono ?_
  rintro e w8 ⟨rfl, hb⟩
  replace HB := hide (bt HB.out hb)
  clear hb
  rw [← HQ.out]
  go_wp2
  go_ret
  exact ⟨rfl, HB.out⟩
end Go.Proofs.Ytoklnkojacdciaa
