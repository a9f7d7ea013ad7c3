import Derived.Test.YtckdcejbojhlcaaGreatDoorE2
namespace Go.Proofs.YtckdcejbojhlcaaGreatDoor
open Go.RowKit Go.Deep

theorem new_cellz (X : World) (cs : Array Value) (t : TypeId) (g i : Nat) (hg : X.heap.size = g) : (X.alloc (.cells cs t)).cell? ⟨g, i, none⟩ = cs[i]? := by subst hg; simp
theorem ff_zero : ∀ (L : List Int) (n : Nat), (ff L n).1 = 0 → ff L n = (0, 0)
  | [], _, _ => rfl
  | c :: r, n, h => by
    unfold ff at h ⊢
    by_cases h0 : c = 0
    · rw [if_pos h0] at h ⊢; exact ff_zero r (n + 1) h
    · rw [if_neg h0] at h; exact absurd h h0

set_option maxHeartbeats 1000000 in
theorem objectChecks_any (w : World) : Calls Tryz.prog 38 #[] w fun e w' => e = .returned (.slice (some ⟨w.heap.size, 0, none⟩) 5 5) ∧ w' = w.alloc (.cells #[.func (.func 54) #[] #[], .func (.func 55) #[] #[], .func (.func 56) #[] #[], .func (.func 57) #[] #[], .func (.func 58) #[] #[]] 55) := by
  go_enter Tryz.func38, Tryz.ntmps38
  go_wp2
  go_ret
  exact ⟨rfl, rfl⟩

section
variable (kd kind nm team : ByteArray) (vv hv fv : Value) (en : Bool) (ver : Int) (V Ho : List ByteArray) (Fs : List Fd) (w : World) (lo : Nat)
/-- what gateCheckObject tells -/
def objB (Fs : List Fd) (nm team : ByteArray) (V Ho : List ByteArray) (ver : Int) : Bool := (nameB nm && nameB team) && (decide (V.length = Fs.length) && ((decide (Ho.length ≤ 3) && ascB Ho) && inB 0 1000000 ver))
def checkR (Fs : List Fd) (nm team : ByteArray) (V Ho : List ByteArray) (ver : Int) : Int × Int := if objB Fs nm team V Ho ver = true then ff (faults Fs V) 0 else (1, 0)

set_option maxRecDepth 20000 in
set_option maxHeartbeats 4000000 in
theorem checkObject_any (hV : StrsAt w vv V) (hH : StrsAt w hv Ho) (hF : FdsAt lo w fv Fs) (s2 : nm.size ≤ maxLen) (s3 : team.size ≤ maxLen) :
    Calls Tryz.prog 23 #[.agg #[.string kd, fv], .agg #[.string kind, .string nm, .string team, vv, .bool en, hv, .int .i64 ver]] w
      fun e w' => e = .returned (errOf (checkR Fs nm team V Ho ver)) ∧ Below w.heap.size w w' := by
  have HV := hide hV
  have HH := hide hH
  have HF := hide hF
  obtain ⟨a, cap, rfl⟩ : ∃ a cap, vv = .slice a V.length cap := by
    rcases hV with ⟨a, cap, h, rfl⟩ | ⟨b, off, cap, h, _⟩
    · exact ⟨_, _, h⟩
    · exact ⟨_, _, h⟩
  obtain ⟨a', cap', rfl⟩ : ∃ a cap, hv = .slice a Ho.length cap := by
    rcases hH with ⟨a, cap, h, rfl⟩ | ⟨b, off, cap, h, _⟩
    · exact ⟨_, _, h⟩
    · exact ⟨_, _, h⟩
  obtain ⟨a1, cap1, rfl⟩ := hF.form
  clear hV hH hF
  have HW : ∀ o o', Hid (Below w.heap.size w ((w.alloc o).alloc o')) := fun o o' => ((Below.refl _ _).alloc (Nat.le_refl _) _).alloc (by simp) _
  go_enter Tryz.func23, Tryz.ntmps23
  go_wp2_with fail
  refine (objectChecks_any _).mono ?_
  rintro e w1 ⟨rfl, hw1⟩
  have G0 : Hid (∀ i, w1.cell? ⟨w.heap.size + 1 + 1, i, none⟩ = (#[.func (.func 54) #[] #[], .func (.func 55) #[] #[], .func (.func 56) #[] #[], .func (.func 57) #[] #[], .func (.func 58) #[] #[]] : Array Value)[i]?) := fun i => by
    rw [hw1]; exact new_cellz _ _ _ _ _ (by simp)
  have G1 : Hid (∀ i, w1.cell? ⟨w.heap.size, i, none⟩ = (#[.string kd, .slice a1 Fs.length cap1] : Array Value)[i]?) := fun i => by
    rw [hw1, World.cell?_alloc_lt _ _ _ (by simp; omega), World.cell?_alloc_lt _ _ _ (by simp)]; simp
  have G2 : Hid (∀ i, w1.cell? ⟨w.heap.size + 1, i, none⟩ = (#[.string kind, .string nm, .string team, .slice a V.length cap, .bool en, .slice a' Ho.length cap', .int .i64 ver] : Array Value)[i]?) := fun i => by
    rw [hw1, World.cell?_alloc_lt _ _ _ (by simp)]; simp
  have HB1 : Hid (Below w.heap.size w w1) := by rw [hw1]; exact (HW _ _).out.alloc (by simp; omega) _
  have hz1 : w1.heap.size = w.heap.size + 3 := by rw [hw1]; simp
  simp only [World.size_alloc]
  clear hw1
  go_wp2
  go_loopw [10] (fun i wr => (i = .int .i64 0 ∧ Below w1.heap.size w1 wr) ∨ (i = .int .i64 1 ∧ Below w1.heap.size w1 wr ∧ (nameB nm && nameB team) = true) ∨ (i = .int .i64 2 ∧ Below w1.heap.size w1 wr ∧ (nameB nm && nameB team) = true ∧ decide (V.length = Fs.length) = true) ∨ (i = .int .i64 3 ∧ Below w1.heap.size w1 wr ∧ (nameB nm && nameB team) = true ∧ decide (V.length = Fs.length) = true ∧ (decide (Ho.length ≤ 3) && ascB Ho) = true) ∨ (i = .int .i64 4 ∧ Below w1.heap.size w1 wr ∧ (nameB nm && nameB team) = true ∧ decide (V.length = Fs.length) = true ∧ (decide (Ho.length ≤ 3) && ascB Ho) = true ∧ inB 0 1000000 ver = true) ∨ (i = .int .i64 5 ∧ Below w1.heap.size w1 wr ∧ (nameB nm && nameB team) = true ∧ decide (V.length = Fs.length) = true ∧ (decide (Ho.length ≤ 3) && ascB Ho) = true ∧ inB 0 1000000 ver = true ∧ ff (faults Fs V) 0 = (0, 0))) (fun i _ => 5 - (intOf i).toNat)
  case atStart => exact Or.inl ⟨rfl, Below.refl _ _⟩
  case round =>
    rcases hrel with ⟨rfl, hb⟩ | ⟨rfl, hb, d0⟩ | ⟨rfl, hb, d0, d1⟩ | ⟨rfl, hb, d0, d1, d2⟩ | ⟨rfl, hb, d0, d1, d2, d3⟩ | ⟨rfl, hb, d0, d1, d2, d3, d4⟩
    · have HBB := hide hb
      have HBr : Hid (Below w.heap.size w wr) := HB1.out.trans (hb.mono (by omega))
      have q1 : ∀ i, wr.cell? ⟨w.heap.size, i, none⟩ = (#[.string kd, .slice a1 Fs.length cap1] : Array Value)[i]? := fun i => by
        rw [hb.cell (p := ⟨w.heap.size, i, none⟩) (by simp only []; omega)]; exact G1.out i
      have q2 : ∀ i, wr.cell? ⟨w.heap.size + 1, i, none⟩ = (#[.string kind, .string nm, .string team, .slice a V.length cap, .bool en, .slice a' Ho.length cap', .int .i64 ver] : Array Value)[i]? := fun i => by
        rw [hb.cell (p := ⟨w.heap.size + 1, i, none⟩) (by simp only []; omega)]; exact G2.out i
      have q0 : wr.cell? ⟨w.heap.size + 1 + 1, 0, none⟩ = some (.func (.func 54) #[] #[]) := by
        rw [hb.cell (p := ⟨w.heap.size + 1 + 1, 0, none⟩) (by simp only []; omega)]; exact G0.out 0
      clear hb
      go_wp2_with fail
      refine (checkNames_any _ _ _ _ _ _ _ _ _ _ s2 s3).mono ?_
      rintro e w2 ⟨he, hb2⟩
      have HB2 : Hid (Below w.heap.size w w2) := HBr.out.trans (hb2.mono HBr.out.size)
      have HB3 : Hid (Below w1.heap.size w1 w2) := HBB.out.trans (hb2.mono HBB.out.size)
      clear hb2 q0 q1 q2
      cases hc : (nameB nm && nameB team) with
      | true =>
        have HC := hide hc
        rw [hc] at he
        have he' : e = .returned .nilIface := he
        subst he'
        clear hc he
        go_wp2
        go_roundw
        case rel => exact Or.inr (Or.inl ⟨by go_num, HB3.out, HC.out⟩)
        case measure => simp [intOf]
      | false =>
        have HX : Hid (checkR Fs nm team V Ho ver = (1, 0)) := by unfold Hid checkR objB; rw [hc]; simp
        rw [hc] at he
        have he' : e = .returned (.iface 71 (.agg #[.int .i64 1, .int .i64 0])) := he
        subst he'
        clear hc he
        go_wp2
        go_ret
        exact ⟨by rw [HX.out]; rfl, HB2.out⟩
    · have HBB := hide hb
      have HBr : Hid (Below w.heap.size w wr) := HB1.out.trans (hb.mono (by omega))
      have q1 : ∀ i, wr.cell? ⟨w.heap.size, i, none⟩ = (#[.string kd, .slice a1 Fs.length cap1] : Array Value)[i]? := fun i => by
        rw [hb.cell (p := ⟨w.heap.size, i, none⟩) (by simp only []; omega)]; exact G1.out i
      have q2 : ∀ i, wr.cell? ⟨w.heap.size + 1, i, none⟩ = (#[.string kind, .string nm, .string team, .slice a V.length cap, .bool en, .slice a' Ho.length cap', .int .i64 ver] : Array Value)[i]? := fun i => by
        rw [hb.cell (p := ⟨w.heap.size + 1, i, none⟩) (by simp only []; omega)]; exact G2.out i
      have q0 : wr.cell? ⟨w.heap.size + 1 + 1, 1, none⟩ = some (.func (.func 55) #[] #[]) := by
        rw [hb.cell (p := ⟨w.heap.size + 1 + 1, 1, none⟩) (by simp only []; omega)]; exact G0.out 1
      have D0 := hide d0
      clear hb d0
      go_wp2_with fail
      refine (checkSize_any _ _ _ _ _ _ _ _ _ _ _ _ _ _).mono ?_
      rintro e w2 ⟨he, hb2⟩
      have HB2 : Hid (Below w.heap.size w w2) := HBr.out.trans (hb2.mono HBr.out.size)
      have HB3 : Hid (Below w1.heap.size w1 w2) := HBB.out.trans (hb2.mono HBB.out.size)
      clear hb2 q0 q1 q2
      cases hc : decide (V.length = Fs.length) with
      | true =>
        have HC := hide hc
        rw [hc] at he
        have he' : e = .returned .nilIface := he
        subst he'
        clear hc he
        go_wp2
        go_roundw
        case rel => exact Or.inr (Or.inr (Or.inl ⟨by go_num, HB3.out, D0.out, HC.out⟩))
        case measure => simp [intOf]
      | false =>
        have HX : Hid (checkR Fs nm team V Ho ver = (1, 0)) := by unfold Hid checkR objB; rw [D0.out, hc]; simp
        rw [hc] at he
        have he' : e = .returned (.iface 71 (.agg #[.int .i64 1, .int .i64 0])) := he
        subst he'
        clear hc he
        go_wp2
        go_ret
        exact ⟨by rw [HX.out]; rfl, HB2.out⟩
    · have HBB := hide hb
      have HBr : Hid (Below w.heap.size w wr) := HB1.out.trans (hb.mono (by omega))
      have q1 : ∀ i, wr.cell? ⟨w.heap.size, i, none⟩ = (#[.string kd, .slice a1 Fs.length cap1] : Array Value)[i]? := fun i => by
        rw [hb.cell (p := ⟨w.heap.size, i, none⟩) (by simp only []; omega)]; exact G1.out i
      have q2 : ∀ i, wr.cell? ⟨w.heap.size + 1, i, none⟩ = (#[.string kind, .string nm, .string team, .slice a V.length cap, .bool en, .slice a' Ho.length cap', .int .i64 ver] : Array Value)[i]? := fun i => by
        rw [hb.cell (p := ⟨w.heap.size + 1, i, none⟩) (by simp only []; omega)]; exact G2.out i
      have q0 : wr.cell? ⟨w.heap.size + 1 + 1, 2, none⟩ = some (.func (.func 56) #[] #[]) := by
        rw [hb.cell (p := ⟨w.heap.size + 1 + 1, 2, none⟩) (by simp only []; omega)]; exact G0.out 2
      have D0 := hide d0
      have D1 := hide d1
      clear hb d0 d1
      go_wp2_with fail
      refine (checkHolds_any _ _ _ _ _ _ _ _ _ Ho _ (HH.out.below HBr.out)).mono ?_
      rintro e w2 ⟨he, hb2⟩
      have HB2 : Hid (Below w.heap.size w w2) := HBr.out.trans (hb2.mono HBr.out.size)
      have HB3 : Hid (Below w1.heap.size w1 w2) := HBB.out.trans (hb2.mono HBB.out.size)
      clear hb2 q0 q1 q2
      cases hc : (decide (Ho.length ≤ 3) && ascB Ho) with
      | true =>
        have HC := hide hc
        rw [hc] at he
        have he' : e = .returned .nilIface := he
        subst he'
        clear hc he
        go_wp2
        go_roundw
        case rel => exact Or.inr (Or.inr (Or.inr (Or.inl ⟨by go_num, HB3.out, D0.out, D1.out, HC.out⟩)))
        case measure => simp [intOf]
      | false =>
        have HX : Hid (checkR Fs nm team V Ho ver = (1, 0)) := by unfold Hid checkR objB; rw [D0.out, D1.out, hc]; simp
        rw [hc] at he
        have he' : e = .returned (.iface 71 (.agg #[.int .i64 1, .int .i64 0])) := he
        subst he'
        clear hc he
        go_wp2
        go_ret
        exact ⟨by rw [HX.out]; rfl, HB2.out⟩
    · have HBB := hide hb
      have HBr : Hid (Below w.heap.size w wr) := HB1.out.trans (hb.mono (by omega))
      have q1 : ∀ i, wr.cell? ⟨w.heap.size, i, none⟩ = (#[.string kd, .slice a1 Fs.length cap1] : Array Value)[i]? := fun i => by
        rw [hb.cell (p := ⟨w.heap.size, i, none⟩) (by simp only []; omega)]; exact G1.out i
      have q2 : ∀ i, wr.cell? ⟨w.heap.size + 1, i, none⟩ = (#[.string kind, .string nm, .string team, .slice a V.length cap, .bool en, .slice a' Ho.length cap', .int .i64 ver] : Array Value)[i]? := fun i => by
        rw [hb.cell (p := ⟨w.heap.size + 1, i, none⟩) (by simp only []; omega)]; exact G2.out i
      have q0 : wr.cell? ⟨w.heap.size + 1 + 1, 3, none⟩ = some (.func (.func 57) #[] #[]) := by
        rw [hb.cell (p := ⟨w.heap.size + 1 + 1, 3, none⟩) (by simp only []; omega)]; exact G0.out 3
      have D0 := hide d0
      have D1 := hide d1
      have D2 := hide d2
      clear hb d0 d1 d2
      go_wp2_with fail
      refine (checkVersion_any _ _ _ _ _ _ _ _ _ _).mono ?_
      rintro e w2 ⟨he, hb2⟩
      have HB2 : Hid (Below w.heap.size w w2) := HBr.out.trans (hb2.mono HBr.out.size)
      have HB3 : Hid (Below w1.heap.size w1 w2) := HBB.out.trans (hb2.mono HBB.out.size)
      clear hb2 q0 q1 q2
      cases hc : inB 0 1000000 ver with
      | true =>
        have HC := hide hc
        rw [hc] at he
        have he' : e = .returned .nilIface := he
        subst he'
        clear hc he
        go_wp2
        go_roundw
        case rel => exact Or.inr (Or.inr (Or.inr (Or.inr (Or.inl ⟨by go_num, HB3.out, D0.out, D1.out, D2.out, HC.out⟩))))
        case measure => simp [intOf]
      | false =>
        have HX : Hid (checkR Fs nm team V Ho ver = (1, 0)) := by unfold Hid checkR objB; rw [D0.out, D1.out, D2.out, hc]; simp
        rw [hc] at he
        have he' : e = .returned (.iface 71 (.agg #[.int .i64 1, .int .i64 0])) := he
        subst he'
        clear hc he
        go_wp2
        go_ret
        exact ⟨by rw [HX.out]; rfl, HB2.out⟩
    · have HBB := hide hb
      have HBr : Hid (Below w.heap.size w wr) := HB1.out.trans (hb.mono (by omega))
      have q1 : ∀ i, wr.cell? ⟨w.heap.size, i, none⟩ = (#[.string kd, .slice a1 Fs.length cap1] : Array Value)[i]? := fun i => by
        rw [hb.cell (p := ⟨w.heap.size, i, none⟩) (by simp only []; omega)]; exact G1.out i
      have q2 : ∀ i, wr.cell? ⟨w.heap.size + 1, i, none⟩ = (#[.string kind, .string nm, .string team, .slice a V.length cap, .bool en, .slice a' Ho.length cap', .int .i64 ver] : Array Value)[i]? := fun i => by
        rw [hb.cell (p := ⟨w.heap.size + 1, i, none⟩) (by simp only []; omega)]; exact G2.out i
      have q0 : wr.cell? ⟨w.heap.size + 1 + 1, 4, none⟩ = some (.func (.func 58) #[] #[]) := by
        rw [hb.cell (p := ⟨w.heap.size + 1 + 1, 4, none⟩) (by simp only []; omega)]; exact G0.out 4
      have D0 := hide d0
      have D1 := hide d1
      have D2 := hide d2
      have D3 := hide d3
      clear hb d0 d1 d2 d3
      have HC : Hid (V.length = Fs.length) := by have := D1.out; unfold Hid; simpa using this
      go_wp2_with fail
      refine (checkFields_any _ _ _ _ _ _ _ _ _ V Fs _ lo (HV.out.below HBr.out) (HF.out.below HBr.out) HC.out).mono ?_
      rintro e w2 ⟨he, hb2⟩
      have HB2 : Hid (Below w.heap.size w w2) := HBr.out.trans (hb2.mono HBr.out.size)
      have HB3 : Hid (Below w1.heap.size w1 w2) := HBB.out.trans (hb2.mono HBB.out.size)
      clear hb2 q0 q1 q2
      by_cases hc : (ff (faults Fs V) 0).1 = 0
      · have he' : e = .returned .nilIface := by rw [he]; unfold errOf; rw [if_pos hc]
        have HC : Hid (ff (faults Fs V) 0 = (0, 0)) := ff_zero _ _ hc
        subst he'
        clear hc
        go_wp2
        go_roundw
        case rel => exact Or.inr (Or.inr (Or.inr (Or.inr (Or.inr (⟨by go_num, HB3.out, D0.out, D1.out, D2.out, D3.out, HC.out⟩)))))
        case measure => simp [intOf]
      · have HX : Hid (checkR Fs nm team V Ho ver = ff (faults Fs V) 0) := by unfold Hid checkR objB; rw [D0.out, D1.out, D2.out, D3.out]; rfl
        have he' : e = .returned (.iface 71 (.agg #[.int .i64 (ff (faults Fs V) 0).1, .int .i64 (ff (faults Fs V) 0).2])) := by rw [he]; unfold errOf; rw [if_neg hc]
        have HC : Hid (errOf (ff (faults Fs V) 0) = .iface 71 (.agg #[.int .i64 (ff (faults Fs V) 0).1, .int .i64 (ff (faults Fs V) 0).2])) := if_neg hc
        subst he'
        generalize (ff (faults Fs V) 0).1 = p1 at HC hc ⊢
        generalize (ff (faults Fs V) 0).2 = p2 at HC ⊢
        clear hc he
        go_wp2
        go_ret
        exact ⟨by rw [HX.out, HC.out]; rfl, HB2.out⟩
    · have HBB := hide hb
      have HBr : Hid (Below w.heap.size w wr) := HB1.out.trans (hb.mono (by omega))
      have q1 : ∀ i, wr.cell? ⟨w.heap.size, i, none⟩ = (#[.string kd, .slice a1 Fs.length cap1] : Array Value)[i]? := fun i => by
        rw [hb.cell (p := ⟨w.heap.size, i, none⟩) (by simp only []; omega)]; exact G1.out i
      have q2 : ∀ i, wr.cell? ⟨w.heap.size + 1, i, none⟩ = (#[.string kind, .string nm, .string team, .slice a V.length cap, .bool en, .slice a' Ho.length cap', .int .i64 ver] : Array Value)[i]? := fun i => by
        rw [hb.cell (p := ⟨w.heap.size + 1, i, none⟩) (by simp only []; omega)]; exact G2.out i
      have D0 := hide d0
      have D1 := hide d1
      have D2 := hide d2
      have D3 := hide d3
      have D4 := hide d4
      clear hb d0 d1 d2 d3 d4
      have HX : Hid (checkR Fs nm team V Ho ver = (0, 0)) := by unfold Hid checkR objB; rw [D0.out, D1.out, D2.out, D3.out]; exact D4.out
      clear D0 D1 D2 D3 D4
      go_wp2
      go_ret
      exact ⟨by rw [HX.out]; rfl, HBr.out⟩
end
end Go.Proofs.YtckdcejbojhlcaaGreatDoor
