import Derived.Test.YthfdfdlojfdckaaGreatVN7
import Derived.Test.YthfdfdlojfdckaaGreatVP1
import Derived.Test.YthfdfdlojfdckaaGreatVB1
import Derived.Test.YthfdfdlojfdckaaGreatVB4
import Derived.Test.YthfdfdlojfdckaaGreatVNA
import Derived.Test.YthfdfdlojfdckaaGreatVA1
import Derived.Test.YthfdfdlojfdckaaGreatVN6
import Derived.Test.YthfdfdlojfdckaaGreatVB5
namespace Go.Proofs.YthfdfdlojfdckaaGreat
open Go.RowKit Go.Deep

theorem mends_bad {Ss : List Sh} {Ms : List Md} (h : shapesB Ss = false) : mendsB Ss Ms = false := by unfold mendsB; rw [h]; rfl
theorem mends_many {Ss : List Sh} {Ms : List Md} (h : 12 < Ms.length) : mendsB Ss Ms = false := by
  unfold mendsB
  rw [show decide (Ms.length ≤ 12) = false from decide_eq_false (by omega)]; simp
theorem mends_one {Ss : List Sh} {Ms : List Md} {k : Nat} (hk : k < Ms.length) (h : mendB Ss Ms[k] = false) : mendsB Ss Ms = false := by
  unfold mendsB
  rw [show Ms.all (mendB Ss) = false from by rw [List.all_eq_false]; exact ⟨Ms[k], List.getElem_mem hk, by simp [h]⟩]; simp
theorem mends_row {Ss : List Sh} {Ms : List Md} {k : Nat} (hk : k < Ss.length) (h : shapeRowB Ms Ss[k] = false) : mendsB Ss Ms = false := by
  unfold mendsB
  rw [show Ss.all (shapeRowB Ms) = false from by rw [List.all_eq_false]; exact ⟨Ss[k], List.getElem_mem hk, by simp [h]⟩]; simp
theorem mends_all {Ss : List Sh} {Ms : List Md} (h1 : shapesB Ss = true) (h2 : Ms.length ≤ 12) (h3 : ∀ i (h : i < Ms.length), mendB Ss Ms[i] = true) (h4 : ∀ i (h : i < Ss.length), shapeRowB Ms Ss[i] = true) : mendsB Ss Ms = true := by
  unfold mendsB
  simp only [Bool.and_eq_true, List.all_eq_true, decide_eq_true_eq]
  refine ⟨⟨⟨h1, h2⟩, fun m hm => ?_⟩, fun x hx => ?_⟩
  · obtain ⟨i, hi, rfl⟩ := List.getElem_of_mem hm; exact h3 i hi
  · obtain ⟨i, hi, rfl⟩ := List.getElem_of_mem hx; exact h4 i hi

set_option maxRecDepth 20000 in
set_option maxHeartbeats 4000000 in
theorem specMends_any (lo lm : Nat) (sv mv : Value) (Ss : List Sh) (Ms : List Md) (w : World) (hS : ShsAt lo w sv Ss) (hM : MdsAt lm w mv Ms) :
    Calls Tryz.prog 86 #[sv, mv] w fun e w' => e = .returned (.bool (mendsB Ss Ms)) ∧ Below w.heap.size w w' := by
  have HS := hide hS
  have HM := hide hM
  obtain ⟨a1, cap1, rfl⟩ := hS.form
  obtain ⟨a2, cap2, rfl⟩ := hM.form
  clear hS hM
  go_enter Tryz.func86, Tryz.ntmps86
  go_wp2_with fail
  refine (specShapes_any lo _ Ss _ HS.out).mono ?_
  rintro e w1 ⟨rfl, hb1⟩
  have HB1 := hide hb1
  clear hb1
  have hml : (Ms.length : Int) ≤ 9223372036854775807 := by
    rcases HM.out with ⟨_, _, _, h⟩ | ⟨_, _, _, _, _, h, _⟩
    · rw [h]; simp
    · unfold maxLen at h; omega
  have hsl : (Ss.length : Int) ≤ 9223372036854775807 := by
    rcases HS.out with ⟨_, _, _, h⟩ | ⟨_, _, _, _, _, h, _⟩
    · rw [h]; simp
    · unfold maxLen at h; omega
  cases hsb : shapesB Ss with
  | false =>
    have HQ : Hid (mendsB Ss Ms = false) := mends_bad hsb
    go_wp2
    go_ret
    exact ⟨ret_bool HQ.out.symm, HB1.out⟩
  | true =>
    by_cases h12 : (Ms.length : Int) ≤ 12
    · have HSB := hide hsb
      clear hsb
      go_wp2
      go_loopw [5] (fun i wr => ∃ k : Nat, i = .int .i64 k ∧ k ≤ Ms.length ∧ Below w.heap.size w wr ∧ ∀ i (h : i < Ms.length), i < k → mendB Ss Ms[i] = true) (fun i _ => Ms.length - (intOf i).toNat)
      case atStart => exact ⟨0, rfl, by omega, HB1.out, fun i _ h => by omega⟩
      case round =>
        obtain ⟨k, rfl, hk, hb, hall⟩ := hrel
        have HA := hide hall
        have HB := hide hb
        clear hall hb
        by_cases hlt : k < Ms.length
        · obtain ⟨b, off, rfl, hbw, hc⟩ := HM.out.full' (by omega)
          obtain ⟨hsz, hcell⟩ := hc k hlt
          obtain ⟨c0, c1, c2, c3, c4, c5⟩ := hcell.below HB.out hbw
          clear hcell hc
          go_wp2_with fail
          refine (l3MendOk_any lo _ Ss Ms[k] _ (HS.out.below HB.out) hsz).mono ?_
          rintro e w2 ⟨rfl, hb2⟩
          have HB2 : Hid (Below w.heap.size w w2) := HB.out.trans (hb2.mono HB.out.size)
          clear hb2 c0 c1 c2 c3 c4 c5
          cases hmb : mendB Ss Ms[k] with
          | false =>
            have HQ : Hid (mendsB Ss Ms = false) := mends_one hlt hmb
            go_wp2
            go_ret
            exact ⟨ret_bool HQ.out.symm, HB2.out⟩
          | true =>
            go_wp2
            go_roundw
            case rel => exact ⟨k + 1, by go_num, by omega, HB2.out, fun i h h' => by
                          by_cases e : i = k
                          · subst e; exact hmb
                          · exact HA.out i h (by omega)⟩
            case measure => simp [intOf]; omega
        · have HAll : Hid (∀ i (h : i < Ms.length), mendB Ss Ms[i] = true) := fun i h => HA.out i h (by omega)
          have HBx : Hid (Below w.heap.size w wr) := HB.out
          clear HA HB HB1
          go_wp2
          clear hlt hk
          rename_i wx _ _ _ _ _ _
          go_loopw [6] (fun i wr => ∃ k : Nat, i = .int .i64 k ∧ k ≤ Ss.length ∧ Below w.heap.size w wr ∧ ∀ i (h : i < Ss.length), i < k → shapeRowB Ms Ss[i] = true) (fun i _ => Ss.length - (intOf i).toNat)
          case atStart => exact ⟨0, rfl, by omega, HBx.out, fun i _ h => by omega⟩
          case round =>
            clear HBx
            obtain ⟨j, rfl, hj, hb, hall⟩ := hrel
            have HA := hide hall
            have HB := hide hb
            clear hall hb
            by_cases hlt : j < Ss.length
            · obtain ⟨b, off, rfl, hbw, hc⟩ := HS.out.full' (by omega)
              obtain ⟨hsz, fv, d0, d1, hst⟩ := hc j hlt
              have c0 : wr.cell? ⟨b, off + j * 2, none⟩ = some (.string Ss[j].kind) := by rw [HB.out.cell (p := ⟨b, _, none⟩) hbw]; exact d0
              have c1 : wr.cell? ⟨b, off + j * 2 + 1, none⟩ = some fv := by rw [HB.out.cell (p := ⟨b, _, none⟩) hbw]; exact d1
              obtain ⟨fa, fcap, rfl⟩ := hst.form
              have HST := hide (hst.below HB.out)
              have hbr : b < wr.heap.size := Nat.lt_of_lt_of_le hbw HB.out.size
              have h6 : Ss[j].fields.length ≤ 6 := fields_six (shapes_fields HSB.out (List.getElem_mem hlt))
              clear d0 d1 hst hc
              go_wp2
              go_region_with (go_at_call 129
                              refine (l3Row_any lo lm _ _ Ss[j] Ms _ (HST.out.below ((Below.refl _ _).drew)) (HM.out.below (HB.out.drew)) (by omega)).mono ?_
                              rintro e w2 ⟨v2, R, rfl, hb2, ho2, hro⟩
                              obtain ⟨ra, rcap, rfl⟩ := ho2.form
                              have HRO := hide hro
                              have HB2 : Hid (Below w.heap.size w w2) := (HB.out.drew).trans (hb2.mono HB.out.size)
                              have c1' : w2.cell? ⟨b, off + j * 2 + 1, none⟩ = some (.slice fa Ss[j].fields.length fcap) := (hb2.cell (p := ⟨b, off + j * 2 + 1, none⟩) hbr).trans c1
                              clear hb2 ho2 hro)
              all_goals
                by_cases hq : (R.length : Int) = (Ss[j].fields.length : Int)
                · have HSR : Hid (shapeRowB Ms Ss[j] = true) := HRO.out.2.2.1 (by omega)
                  go_wp2
                  go_roundw
                  case rel => exact ⟨j + 1, by go_num, by omega, HB2.out, fun i h h' => by
                                by_cases e : i = j
                                · subst e; exact HSR.out
                                · exact HA.out i h (by omega)⟩
                  case measure => simp [intOf]; omega
                · have HSR : Hid (shapeRowB Ms Ss[j] = false) := by
                    unfold Hid
                    cases h : shapeRowB Ms Ss[j] with
                    | false => rfl
                    | true => exact absurd (HRO.out.2.2.2 h) (by omega)
                  have HQ : Hid (mendsB Ss Ms = false) := mends_row hlt HSR.out
                  go_wp2
                  go_ret
                  exact ⟨ret_bool HQ.out.symm, HB2.out⟩
            · have HQ : Hid (mendsB Ss Ms = true) := mends_all HSB.out (by omega) HAll.out (fun i h => HA.out i h (by omega))
              go_wp2
              go_ret
              exact ⟨ret_bool HQ.out.symm, HB.out⟩
    · have HQ : Hid (mendsB Ss Ms = false) := mends_many (by omega)
      go_wp2
      go_ret
      exact ⟨ret_bool HQ.out.symm, HB1.out⟩
end Go.Proofs.YthfdfdlojfdckaaGreat

