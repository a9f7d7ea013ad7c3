import Derived.Test.YtjkkbkdpoebfaaaGreatV40
import Derived.Test.YtjkkbkdpoebfaaaGreatV41
namespace Go.Proofs.YtjkkbkdpoebfaaaGreat
open Go.RowKit Go.Deep

theorem mendI_eq {Ss : List Sh} {m : Md} {x : Sh} (hs : shapesB Ss = true) (hx : shOf Ss m.kind = some x) : mendI x.fields m = mendB Ss m := by
  unfold mendB; rw [hx]
  exact mend_same (fields_named (shapes_fields hs (shOf_mem hx).1))
theorem mendB_none {Ss : List Sh} {m : Md} (hx : shOf Ss m.kind = none) : mendB Ss m = false := by unfold mendB; rw [hx]

set_option maxRecDepth 20000 in
set_option maxHeartbeats 4000000 in
theorem sound_any (lo lm : Nat) (sv mv : Value) (Ss : List Sh) (Ms : List Md) (w : World) (hS : ShsAt lo w sv Ss) (hM : MdsAt lm w mv Ms) (hsb : shapesB Ss = true) :
    Calls Tryz.prog 24 #[sv, mv] w fun e w' => e = .returned (.bool (mendsB Ss Ms)) ∧ Below w.heap.size w w' := by
  have HS := hide hS
  have HM := hide hM
  have HSB := hide hsb
  obtain ⟨a1, cap1, rfl⟩ := hS.form
  obtain ⟨a2, cap2, rfl⟩ := hM.form
  clear hS hM hsb
  have hml : (Ms.length : Int) ≤ 9223372036854775807 := by
    rcases HM.out with ⟨_, _, _, h⟩ | ⟨_, _, _, _, _, h, _⟩
    · rw [h]; simp
    · unfold maxLen at h; omega
  have hs6 : Ss.length ≤ 6 := shapes_six HSB.out
  by_cases h12 : (Ms.length : Int) ≤ 12
  · go_enter Tryz.func24, Tryz.ntmps24
    go_wp2
    go_loopw [18] (fun i wr => ∃ k : Nat, i = .int .i64 k ∧ k ≤ Ms.length ∧ Below w.heap.size w wr ∧ ∀ i (h : i < Ms.length), i < k → mendB Ss Ms[i] = true) (fun i _ => Ms.length - (intOf i).toNat)
    case atStart => exact ⟨0, rfl, by omega, Below.refl _ _, fun i _ h => by omega⟩
    case round =>
      obtain ⟨k, rfl, hk, hb, hall⟩ := hrel
      have HA := hide hall
      have HB := hide hb
      clear hall hb
      by_cases hlt : k < Ms.length
      · obtain ⟨b, off, rfl, hbw, hc⟩ := HM.out.full' (by omega)
        obtain ⟨hsz, hcell⟩ := hc k hlt
        obtain ⟨c0, c1, c2, c3, c4, c5⟩ := hcell.below HB.out hbw
        clear hcell hc
        go_wp2_with fail
        generalize hWa : wr.alloc _ = Wa
        have hba : Below wr.heap.size wr Wa := by rw [← hWa]; exact one_al _ _
        have FM : Hid (Box Wa wr.heap.size #[.string Ms[k].kind, .string Ms[k].field, .string Ms[k].wh, .string Ms[k].is, .string Ms[k].put, .string Ms[k].fr]) := by rw [← hWa]; exact Box.new _ _ _ _ rfl
        have HBa : Hid (Below w.heap.size w Wa) := HB.out.trans (hba.mono HB.out.size)
        clear hWa hba c0 c1 c2 c3 c4 c5
        refine (shapeOf0_any lo _ Ss Ms[k].kind w _ HS.out HBa.out).mono ?_
        rintro e w1 ⟨hb1, hsh⟩
        have FM := hide (FM.out.on hb1)
        have HB1 : Hid (Below w.heap.size w w1) := HBa.out.trans (hb1.mono HBa.out.size)
        clear hb1 HBa
        have g1 := FM.out.cell
        have gl := FM.out.lt
        rcases hsh with ⟨x, fv, hx, rfl, hfd⟩ | ⟨hx, rfl⟩
        · obtain ⟨fa, fcap, rfl⟩ := hfd.form
          have HFD := hide hfd
          have HX := hide hx
          clear hfd hx
          go_wp2_with fail
          clear g1 gl
          refine (mendOk_any lo _ _ x.fields Ms[k] w _ HFD.out (HB1.out.alloc HB1.out.size _) hsz).mono ?_
          rintro e w2 ⟨rfl, hb2⟩
          have HB2 : Hid (Below w.heap.size w w2) := (HB1.out.alloc HB1.out.size _).trans (hb2.mono (HB1.out.alloc HB1.out.size _).size)
          clear hb2
          rw [mendI_eq HSB.out HX.out]
          cases hmb : mendB Ss Ms[k] with
          | false =>
            have HQ : Hid (mendsB Ss Ms = false) := mends_one hlt hmb
            go_wp2
            go_ret
            exact ⟨ret_bool HQ.out.symm, HB2.out⟩
          | true =>
            go_wp2
            go_roundw
            case rel => exact ⟨k + 1, by go_num, by omega, HB2.out, fun i h h' => by
                          by_cases e : i = k
                          · subst e; exact hmb
                          · exact HA.out i h (by omega)⟩
            case measure => simp [intOf]; omega
        · have HQ : Hid (mendsB Ss Ms = false) := mends_one hlt (mendB_none hx)
          go_wp2
          go_ret
          exact ⟨ret_bool HQ.out.symm, HB1.out.alloc HB1.out.size _⟩
      · have HAll : Hid (∀ i (h : i < Ms.length), mendB Ss Ms[i] = true) := fun i h => HA.out i h (by omega)
        have HBx : Hid (Below w.heap.size w wr) := HB.out
        clear HA HB
        go_wp2
        clear hlt hk
        go_loopw [40] (fun i wr => ∃ k : Nat, i = .int .i64 k ∧ k ≤ Ss.length ∧ Below w.heap.size w wr ∧ ∀ i (h : i < Ss.length), i < k → shapeRowB Ms Ss[i] = true) (fun i _ => Ss.length - (intOf i).toNat)
        case atStart => exact ⟨0, rfl, by omega, HBx.out, fun i _ h => by omega⟩
        case round =>
          clear HBx
          obtain ⟨j, rfl, hj, hb, hall⟩ := hrel
          have HA := hide hall
          have HB := hide hb
          clear hall hb
          by_cases hlt : j < Ss.length
          · obtain ⟨b, off, rfl, hbw, hc⟩ := HS.out.full' (by omega)
            obtain ⟨hsz, fv, d0, d1, hst⟩ := hc j hlt
            have c0 : wr.cell? ⟨b, off + j * 2, none⟩ = some (.string Ss[j].kind) := by rw [HB.out.cell (p := ⟨b, _, none⟩) hbw]; exact d0
            have c1 : wr.cell? ⟨b, off + j * 2 + 1, none⟩ = some fv := by rw [HB.out.cell (p := ⟨b, _, none⟩) hbw]; exact d1
            obtain ⟨fa, fcap, rfl⟩ := hst.form
            have HST := hide hst
            have h6 : Ss[j].fields.length ≤ 6 := fields_six (shapes_fields HSB.out (List.getElem_mem hlt))
            clear d0 d1 hst hc
            go_wp2_with fail
            have HBa := fun o => hide (HB.out.alloc HB.out.size o)
            refine (fieldRow_any lo lm _ _ Ss[j] Ms w _ HST.out (HBa _).out (HM.out.below (HBa _).out) (by omega) (by omega)).mono ?_
            rintro e w2 ⟨hb2, hgr⟩
            have HB2 : Hid (Below w.heap.size w w2) := (HBa _).out.trans (hb2.mono (HBa _).out.size)
            clear hb2 HBa c0 c1
            rcases hgr with ⟨v2, R, rfl, ho, hg, hl⟩ | ⟨hno, rfl⟩
            · have HSR : Hid (shapeRowB Ms Ss[j] = true) := rowB_yes hg hl
              obtain ⟨va, vcap, rfl⟩ := ho.form
              clear ho hg hl
              go_wp2
              go_roundw
              case rel => exact ⟨j + 1, by go_num, by omega, HB2.out, fun i h h' => by
                            by_cases e : i = j
                            · subst e; exact HSR.out
                            · exact HA.out i h (by omega)⟩
              case measure => simp [intOf]; omega
            · have HQ : Hid (mendsB Ss Ms = false) := mends_row hlt hno
              clear hno
              go_wp2
              go_ret
              exact ⟨ret_bool HQ.out.symm, HB2.out⟩
          · have HQ : Hid (mendsB Ss Ms = true) := mends_all HSB.out (by omega) HAll.out (fun i h => HA.out i h (by omega))
            go_wp2
            go_ret
            exact ⟨ret_bool HQ.out.symm, HB.out⟩
  · have HQ : Hid (mendsB Ss Ms = false) := mends_many (by omega)
    go_enter Tryz.func24, Tryz.ntmps24
    go_wp2
    go_ret
    exact ⟨ret_bool HQ.out.symm, Below.refl _ _⟩

set_option maxHeartbeats 1000000 in
theorem implMends_any (lo lm : Nat) (sv mv : Value) (Ss : List Sh) (Ms : List Md) (w : World) (hS : ShsAt lo w sv Ss) (hM : MdsAt lm w mv Ms) :
    Calls Tryz.prog 8 #[sv, mv] w fun e w' => e = .returned (.bool (mendsB Ss Ms)) ∧ Below w.heap.size w w' := by
  have HS := hide hS
  have HM := hide hM
  obtain ⟨a1, cap1, rfl⟩ := hS.form
  obtain ⟨a2, cap2, rfl⟩ := hM.form
  clear hS hM
  go_enter Tryz.func8, Tryz.ntmps8
  go_wp2_with fail
  refine (implShapes_any lo _ Ss _ HS.out).mono ?_
  rintro e w1 ⟨rfl, hb1⟩
  have HB1 := hide hb1
  clear hb1
  cases hsb : shapesB Ss with
  | false =>
    have HQ : Hid (mendsB Ss Ms = false) := mends_bad hsb
    go_wp2
    go_ret
    exact ⟨ret_bool HQ.out.symm, HB1.out⟩
  | true =>
    have HSB := hide hsb
    clear hsb
    go_wp2_with fail
    refine (sound_any lo lm _ _ Ss Ms _ (HS.out.below HB1.out) (HM.out.below HB1.out) HSB.out).mono ?_
    rintro e w2 ⟨rfl, hb2⟩
    have HB2 : Hid (Below w.heap.size w w2) := HB1.out.trans (hb2.mono HB1.out.size)
    clear hb2
    go_wp2
    go_ret
    exact ⟨rfl, HB2.out⟩
end Go.Proofs.YtjkkbkdpoebfaaaGreat
