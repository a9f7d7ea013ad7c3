import Derived.Test.YtckdcejbojhlcaaD3
import Derived.Test.YtckdcejbojhlcaaS12
namespace Go.Proofs.Ytckdcejbojhlcaa
open Go.RowKit Go.Deep

theorem goalV_bad {Ss : List Sh} {kind : ByteArray} {V : List ByteArray} (h : shapesB Ss = false) : goalV Ss kind V = V := goalV_none (by unfold okShapeOf; rw [h]; rfl)
theorem goalV_good {Ss : List Sh} {kind : ByteArray} {V : List ByteArray} (h : shapesB Ss = true) : goalV Ss kind V = fillS Ss kind V := by unfold goalV fillS okShapeOf; rw [h]; rfl

section
variable (kind nm team : ByteArray) (vv hv sv : Value) (en : Bool) (ver : Int) (V Ho : List ByteArray) (Ss : List Sh) (w : World) (lo : Nat)
set_option maxRecDepth 20000 in
set_option maxHeartbeats 2000000 in
theorem specFill_any (hS : ShsAt lo w sv Ss) (hV : StrsAt w vv V) (hH : StrsAt w hv Ho) (n1 : V.length ≤ 1048576) (n2 : Ho.length ≤ 1048576) :
    Calls Try.prog 17 #[sv, .agg #[.string kind, .string nm, .string team, vv, .bool en, hv, .int .i64 ver]] w
      fun e w' => ∃ v' h', e = .returned (.agg #[.string kind, .string nm, .string team, v', .bool en, h', .int .i64 ver]) ∧ Below w.heap.size w w' ∧ ObjOwn w.heap.size w' v' h' (goalV Ss kind V) Ho := by
  have HV := hide hV
  have HH := hide hH
  have HS := hide hS
  obtain ⟨a, cap, rfl⟩ := hV.form'
  obtain ⟨a', cap', rfl⟩ := hH.form'
  obtain ⟨a1, cap1, rfl⟩ := hS.form
  clear hV hH hS
  have HW : ∀ o o', Hid (Below w.heap.size w ((w.alloc o).alloc o')) := fun o o' => ((Below.refl _ _).alloc (Nat.le_refl _) _).alloc (by simp) _
  go_enter Try.func17, Try.ntmps17
  go_wp2_with fail
  refine (specShapes_any lo _ Ss _ (HS.out.below (HW _ _).out)).mono ?_
  rintro e w1 ⟨rfl, hb⟩
  have hz : w.heap.size + 1 < w1.heap.size := by have := hb.size; simp at this; omega
  have hz0 : w.heap.size < w1.heap.size := by omega
  obtain ⟨hc, hf⟩ := bcell hb
  have HB : Hid (Below w.heap.size w w1) := (HW _ _).out.trans (hb.mono (by simp; omega))
  have g0 : ∀ i, w1.cell? ⟨w.heap.size, i, none⟩ = (#[.string kind, .string nm, .string team, .slice a V.length cap, .bool en, .slice a' Ho.length cap', .int .i64 ver] : Array Value)[i]? := fun i => by
    rw [hc _ _ (by simp; omega), cell_alloc_lt _ _ _ _ (by simp)]; exact new_cell _ _ _ _ _ rfl
  have G1 : Hid (∀ i, w1.cell? ⟨w.heap.size + 1, i, none⟩ = (#[.string ⟨#[]⟩, .string ⟨#[]⟩, .string ⟨#[]⟩, .slice none 0 0, .bool false, .slice none 0 0, .int .i64 0] : Array Value)[i]?) := fun i => by
    rw [hc _ _ (by simp)]; exact new_cell _ _ _ _ _ (by simp)
  have GF1 : Hid (∀ i, w1.frozen? ⟨w.heap.size + 1, i, none⟩ = false) := fun i => by rw [hf _ _ (by simp)]; exact new_free _ _ _ _ _ (by simp)
  clear hb hc hf
  cases hsb : shapesB Ss with
  | false =>
    have HG : Hid (goalV Ss kind V = V) := goalV_bad hsb
    go_wp2_with fail
    refine (l2Copy_any _ _ _ _ _ _ _ V Ho _ (HV.out.below HB.out) (HH.out.below HB.out) n1 n2).mono ?_
    rintro e w5 ⟨v5, h5, rfl, hb5, mid, hlo, hmid, ho5, ho6⟩
    obtain ⟨a5, cap5, rfl⟩ := ho5.form
    obtain ⟨a6, cap6, rfl⟩ := ho6.form
    have hz5 : w.heap.size + 1 < w5.heap.size := by have := hb5.size; omega
    have hlo' : w.heap.size + 2 ≤ mid := by omega
    have HB5 : Hid (Below w.heap.size w w5) := HB.out.trans (hb5.mono (by omega))
    have HO5 : Hid (StrsOwn (w.heap.size + 2) mid w5 (.slice a5 V.length cap5) V) := ho5.wide (by omega) (Nat.le_refl _)
    have HO6 := hide ho6
    have r' : ∀ i, w5.cell? ⟨w.heap.size + 1, i, none⟩ = (#[.string ⟨#[]⟩, .string ⟨#[]⟩, .string ⟨#[]⟩, .slice none 0 0, .bool false, .slice none 0 0, .int .i64 0] : Array Value)[i]? := fun i => by rw [hb5.cell (p := ⟨w.heap.size + 1, i, none⟩) hz]; exact G1.out i
    have rf : ∀ i, w5.frozen? ⟨w.heap.size + 1, i, none⟩ = false := fun i => by rw [hb5.frozen (p := ⟨w.heap.size + 1, i, none⟩) hz]; exact GF1.out i
    have r0 : w5.cell? ⟨w.heap.size + 1, 0, none⟩ = some (.string ⟨#[]⟩) := r' 0
    have r1 : w5.cell? ⟨w.heap.size + 1, 1, none⟩ = some (.string ⟨#[]⟩) := r' 1
    have r2 : w5.cell? ⟨w.heap.size + 1, 2, none⟩ = some (.string ⟨#[]⟩) := r' 2
    have r3 : w5.cell? ⟨w.heap.size + 1, 3, none⟩ = some (.slice none 0 0) := r' 3
    have r4 : w5.cell? ⟨w.heap.size + 1, 4, none⟩ = some (.bool false) := r' 4
    have r5 : w5.cell? ⟨w.heap.size + 1, 5, none⟩ = some (.slice none 0 0) := r' 5
    have r6 : w5.cell? ⟨w.heap.size + 1, 6, none⟩ = some (.int .i64 0) := r' 6
    clear hb5 ho5 ho6 r' hlo
    go_wp2
    refine bodyPost_ret (v := .agg #[.string kind, .string nm, .string team, .slice a5 V.length cap5, .bool en, .slice a6 Ho.length cap6, .int .i64 ver]) (by simp [results, Try.results17, go_sem, r0, r1, r2, r3, r4, r5, r6]) rfl ⟨_, _, rfl, ?_, mid, ?_, by simp only [World.setCell, Array.size_modify]; omega, ?_, ?_⟩
    · repeat (refine Below.setCell ?_ (by simp only []; omega) _)
      exact HB5.out
    · omega
    · rw [HG.out]
      refine StrsOwn.wide (lo := w.heap.size + 2) (hi := mid) ?_ (by omega) (Nat.le_refl _)
      repeat (refine StrsOwn.setCell ?_ (by simp only []; omega) _)
      exact HO5.out
    · refine StrsOwn.wide (lo := mid) (hi := w5.heap.size) ?_ (Nat.le_refl _) (by simp only [World.setCell, Array.size_modify]; omega)
      repeat (refine StrsOwn.setCell ?_ (by simp only []; omega) _)
      exact HO6.out
  | true =>
    have HG : Hid (goalV Ss kind V = fillS Ss kind V) := goalV_good hsb
    go_wp2_with fail
    refine (l2Fill_any _ _ _ _ _ _ _ _ V Ho Ss _ lo (HS.out.below HB.out) (HV.out.below HB.out) (HH.out.below HB.out) n1 n2).mono ?_
    rintro e w5 ⟨v5, h5, rfl, hb5, mid, hlo, hmid, ho5, ho6⟩
    obtain ⟨a5, cap5, rfl⟩ := ho5.form
    obtain ⟨a6, cap6, rfl⟩ := ho6.form
    have hz5 : w.heap.size + 1 < w5.heap.size := by have := hb5.size; omega
    have hlo' : w.heap.size + 2 ≤ mid := by omega
    have HB5 : Hid (Below w.heap.size w w5) := HB.out.trans (hb5.mono (by omega))
    have HO5 : Hid (StrsOwn (w.heap.size + 2) mid w5 (.slice a5 (fillS Ss kind V).length cap5) (fillS Ss kind V)) := ho5.wide (by omega) (Nat.le_refl _)
    have HO6 := hide ho6
    have r' : ∀ i, w5.cell? ⟨w.heap.size + 1, i, none⟩ = (#[.string ⟨#[]⟩, .string ⟨#[]⟩, .string ⟨#[]⟩, .slice none 0 0, .bool false, .slice none 0 0, .int .i64 0] : Array Value)[i]? := fun i => by rw [hb5.cell (p := ⟨w.heap.size + 1, i, none⟩) hz]; exact G1.out i
    have rf : ∀ i, w5.frozen? ⟨w.heap.size + 1, i, none⟩ = false := fun i => by rw [hb5.frozen (p := ⟨w.heap.size + 1, i, none⟩) hz]; exact GF1.out i
    have r0 : w5.cell? ⟨w.heap.size + 1, 0, none⟩ = some (.string ⟨#[]⟩) := r' 0
    have r1 : w5.cell? ⟨w.heap.size + 1, 1, none⟩ = some (.string ⟨#[]⟩) := r' 1
    have r2 : w5.cell? ⟨w.heap.size + 1, 2, none⟩ = some (.string ⟨#[]⟩) := r' 2
    have r3 : w5.cell? ⟨w.heap.size + 1, 3, none⟩ = some (.slice none 0 0) := r' 3
    have r4 : w5.cell? ⟨w.heap.size + 1, 4, none⟩ = some (.bool false) := r' 4
    have r5 : w5.cell? ⟨w.heap.size + 1, 5, none⟩ = some (.slice none 0 0) := r' 5
    have r6 : w5.cell? ⟨w.heap.size + 1, 6, none⟩ = some (.int .i64 0) := r' 6
    clear hb5 ho5 ho6 r' hlo
    go_wp2
    refine bodyPost_ret (v := .agg #[.string kind, .string nm, .string team, .slice a5 (fillS Ss kind V).length cap5, .bool en, .slice a6 Ho.length cap6, .int .i64 ver]) (by simp [results, Try.results17, go_sem, r0, r1, r2, r3, r4, r5, r6]) rfl ⟨_, _, rfl, ?_, mid, ?_, by simp only [World.setCell, Array.size_modify]; omega, ?_, ?_⟩
    · repeat (refine Below.setCell ?_ (by simp only []; omega) _)
      exact HB5.out
    · omega
    · rw [HG.out]
      refine StrsOwn.wide (lo := w.heap.size + 2) (hi := mid) ?_ (by omega) (Nat.le_refl _)
      repeat (refine StrsOwn.setCell ?_ (by simp only []; omega) _)
      exact HO5.out
    · refine StrsOwn.wide (lo := mid) (hi := w5.heap.size) ?_ (Nat.le_refl _) (by simp only [World.setCell, Array.size_modify]; omega)
      repeat (refine StrsOwn.setCell ?_ (by simp only []; omega) _)
      exact HO6.out

set_option maxRecDepth 20000 in
set_option maxHeartbeats 2000000 in
theorem markObj_any (mid hi : Nat) (k : Int) (hV : StrsOwn lo mid w vv V) (hH : StrsOwn mid hi w hv Ho) (h0 : 0 ≤ k) (hk : k + V.length + Ho.length ≤ 4000000000000000000) (hlm : lo ≤ mid) (hmh : mid ≤ hi) (hhi : hi ≤ w.heap.size) :
    Calls Try.prog 22 #[.agg #[.string kind, .string nm, .string team, vv, .bool en, hv, .int .i64 ver], .int .i64 k] w
      fun e w' => e = .returned (.int .i64 (k + V.length + Ho.length)) ∧ Touch lo hi w w' ∧ StrsOwn lo mid w' vv (marks k V.length) ∧ StrsOwn mid hi w' hv (marks (k + V.length) Ho.length) := by
  have HV := hide hV
  have HH := hide hH
  obtain ⟨a, cap, rfl⟩ := hV.form
  obtain ⟨a', cap', rfl⟩ := hH.form
  clear hV hH
  have HW : ∀ o, Hid (Below w.heap.size w (w.alloc o)) := fun o => (Below.refl _ _).alloc (Nat.le_refl _) _
  go_enter Try.func22, Try.ntmps22
  go_wp2_with fail
  refine (markStrs_any lo mid _ V k _ (HV.out.below (HW _).out) h0 (by omega)).mono ?_
  rintro e w1 ⟨rfl, ht, hs⟩
  have HT1 := hide ht
  have HV1 := hide hs
  have HH1 : Hid (StrsOwn mid hi w1 (.slice a' Ho.length cap') Ho) := (HH.out.below (HW _).out).touch ht (Or.inr (Nat.le_refl _))
  have hz : w.heap.size < w1.heap.size := by have := ht.size; simp at this; omega
  have g0 : ∀ i, w1.cell? ⟨w.heap.size, i, none⟩ = (#[.string kind, .string nm, .string team, .slice a V.length cap, .bool en, .slice a' Ho.length cap', .int .i64 ver] : Array Value)[i]? := fun i => by
    rw [ht.cell (p := ⟨w.heap.size, i, none⟩) (by simp) (by simp only []; omega)]; exact new_cell _ _ _ _ _ rfl
  clear ht hs
  go_wp2_with fail
  refine (markStrs_any mid hi _ Ho _ _ HH1.out (by omega) (by omega)).mono ?_
  rintro e w2 ⟨rfl, ht2, hs2⟩
  have HT2 : Hid (Touch lo hi w w2) := ((Touch.below (HW _).out).trans (HT1.out.wide (Nat.le_refl _) hmh)).trans (ht2.wide hlm (Nat.le_refl _))
  have HH2 := hide hs2
  have HV2 : Hid (StrsOwn lo mid w2 (.slice a V.length cap) (marks k V.length)) := HV1.out.touch ht2 (Or.inl (Nat.le_refl _))
  clear ht2 hs2
  go_wp2
  go_ret
  exact ⟨rfl, HT2.out, HV2.out, HH2.out⟩

set_option maxRecDepth 20000 in
set_option maxHeartbeats 2000000 in
theorem heldObj_any (n m : Nat) (k : Int) (hV : StrsAt w vv (marks k n)) (hH : StrsAt w hv (marks (k + n) m)) (h0 : 0 ≤ k) (hk : k + n + m ≤ 4000000000000000000) :
    Calls Try.prog 23 #[.agg #[.string kind, .string nm, .string team, vv, .bool en, hv, .int .i64 ver], .int .i64 k] w
      fun e w' => e = .returned (.int .i64 (k + n + m)) ∧ Below w.heap.size w w' := by
  have HV := hide hV
  have HH := hide hH
  obtain ⟨a, n1, cap, rfl⟩ := hV.form
  obtain ⟨a', n2, cap', rfl⟩ := hH.form
  clear hV hH
  have HW : ∀ o, Hid (Below w.heap.size w (w.alloc o)) := fun o => (Below.refl _ _).alloc (Nat.le_refl _) _
  go_enter Try.func23, Try.ntmps23
  go_wp2_with fail
  refine (heldStrs_any _ n k _ (HV.out.below (HW _).out) h0 (by omega)).mono ?_
  rintro e w1 ⟨rfl, hb⟩
  have hz : w.heap.size < w1.heap.size := by have := hb.size; simp at this; omega
  have HB : Hid (Below w.heap.size w w1) := (HW _).out.trans (hb.mono (by simp))
  have g0 : ∀ i, w1.cell? ⟨w.heap.size, i, none⟩ = (#[.string kind, .string nm, .string team, .slice a n1 cap, .bool en, .slice a' n2 cap', .int .i64 ver] : Array Value)[i]? := fun i => by
    rw [hb.cell (p := ⟨w.heap.size, i, none⟩) (by simp)]; exact new_cell _ _ _ _ _ rfl
  clear hb
  go_wp2_with fail
  refine (heldStrs_any _ m _ _ (HH.out.below HB.out) (by omega) (by omega)).mono ?_
  rintro e w2 ⟨rfl, hb2⟩
  have HB2 : Hid (Below w.heap.size w w2) := HB.out.trans (hb2.mono HB.out.size)
  clear hb2
  go_wp2
  go_ret
  exact ⟨rfl, HB2.out⟩
end
end Go.Proofs.Ytckdcejbojhlcaa
