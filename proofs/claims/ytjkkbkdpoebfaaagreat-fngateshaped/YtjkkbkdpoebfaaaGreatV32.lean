import Derived.Test.YtjkkbkdpoebfaaaGreatV18
namespace Go.Proofs.YtjkkbkdpoebfaaaGreat
open Go.RowKit Go.Deep

set_option maxRecDepth 20000 in
set_option maxHeartbeats 8000000 in
theorem l3MendOk_any (lo : Nat) (sv : Value) (Ss : List Sh) (m : Md) (w : World) (hS : ShsAt lo w sv Ss) (hm : MdSize m) :
    Calls Tryz.prog 35 #[sv, .agg #[.string m.kind, .string m.field, .string m.wh, .string m.is, .string m.put, .string m.fr]] w fun e w' => e = .returned (.bool (mendB Ss m)) ∧ Below w.heap.size w w' := by
  have HS := hide hS
  have HM := hide hm
  obtain ⟨a1, cap1, rfl⟩ := hS.form
  clear hS hm
  have HW : ∀ o, Hid (Below w.heap.size w (w.alloc o)) := fun o => (Below.refl _ _).alloc (Nat.le_refl _) _
  go_enter Tryz.func35, Tryz.ntmps35
  go_wp2_with fail
  refine (l1ShapeK_any lo _ Ss m.kind _ (HS.out.below (HW _).out)).mono ?_
  rintro e w1 ⟨rfl, ⟨k, hk, rfl, hsh⟩ | ⟨rfl, hsh⟩⟩
  · obtain ⟨b, off, rfl, hbw, hc⟩ := HS.out.full' (by omega)
    obtain ⟨_, fv, d0, d1, hst⟩ := hc k hk
    obtain ⟨fa, fcap, rfl⟩ := hst.form
    have HST := hide hst
    have d1' : ∀ o, (w.alloc o).cell? ⟨b, off + k * 2 + 1, none⟩ = some (.slice fa Ss[k].fields.length fcap) := fun o => by rw [cell_alloc_lt _ _ _ _ hbw]; exact d1
    have HQ : Hid (mendB Ss m = mendS Ss[k].fields m) := by unfold Hid mendB; rw [hsh, List.getElem?_eq_getElem hk]
    clear d0 d1 hst hc hsh
    generalize hF : Ss[k].fields = Fs at *
    clear hF
    go_wp2_with fail
    refine (l3Plain_any lo _ Fs m.field _ (HST.out.below (HW _).out)).mono ?_
    rintro e w1 ⟨rfl, rfl⟩
    cases hpf : plainB Fs m.field with
    | false =>
      go_wp2
      go_ret
      exact ⟨ret_bool (by rw [HQ.out]; unfold mendS formB; simp [hpf]), (HW _).out⟩
    | true =>
      cases hwe : m.wh.toList.isEmpty with
      | true =>
        cases hfe : m.fr.toList.isEmpty with
        | true =>
          cases hb1 : (m.wh.toList == m.field.toList) with
          | true =>
            go_wp2
            go_ret
            exact ⟨ret_bool (by rw [HQ.out]; unfold mendS formB; simp [hpf, hwe, hfe, hb1]), (HW _).out⟩
          | false =>
            cases hb2 : (m.fr.toList == m.field.toList) with
            | true =>
              go_wp2
              go_ret
              exact ⟨ret_bool (by rw [HQ.out]; unfold mendS formB; simp [hpf, hwe, hfe, hb1, hb2]), (HW _).out⟩
            | false =>
              cases his : m.is.toList.isEmpty with
              | false =>
                go_wp2
                go_ret
                exact ⟨ret_bool (by rw [HQ.out]; unfold mendS formB; simp [hpf, hwe, hfe, hb1, hb2, his]), (HW _).out⟩
              | true =>
                cases hpu : m.put.toList.isEmpty with
                | true =>
                  go_wp2
                  go_ret
                  exact ⟨ret_bool (by rw [HQ.out]; unfold mendS formB; simp [hpf, hwe, hfe, hb1, hb2, his, hpu]), (HW _).out⟩
                | false =>
                  have hplt : plOf Fs m.field < Fs.length := plOf_lt.2 (plain_mem hpf)
                  have HPI : Hid (placeI Fs m.field = plOf Fs m.field) := placeI_lt hplt
                  obtain ⟨fb, fo, rfl, hfb, hfc⟩ := HST.out.full' (by omega)
                  obtain ⟨hfs, wv, hcell, hwd⟩ := hfc _ hplt
                  have HFIT : Hid (fitF Fs m.field m.put = fitsB Fs[plOf Fs m.field].kd Fs[plOf Fs m.field].le Fs[plOf Fs m.field].mo Fs[plOf Fs m.field].words m.put) := fitF_at hplt
                  obtain ⟨c0, c1, c2, c3, c4, c5, c6, c7, c8, c9, c10⟩ := hcell
                  have HWD := hide hwd
                  obtain ⟨wa, wn, wcap, rfl⟩ := hwd.form
                  have HEND : Hid (mendB Ss m = fitF Fs m.field m.put) := by unfold Hid; rw [HQ.out]; unfold mendS formB; simp [hpf, hwe, hfe, hb1, hb2, his, hpu]
                  clear hwd hfc hfs
                  generalize hpp : plOf Fs m.field = p at *
                  have hpm : (Fs.length : Int) ≤ 9223372036854775807 := by
                    rcases HST.out with ⟨_, _, h, _⟩ | ⟨_, _, _, _, _, h, _⟩
                    · injection h; omega
                    · unfold maxLen at h; omega
                  go_wp2
                  go_region_with (first
                    | (go_at_call 60
                       refine (l3Field_any lo _ Fs m.field _ (HST.out.below ((HW _).out.drew))).mono ?_
                       rintro e w' ⟨rfl, rfl⟩
                       rw [HPI.out])
                    | (go_at_call 59
                       refine (specFits_any _ _ _ _ _ _ _ _ _ _ Fs[p].words _ _ _ (HWD.out.at.below (below_drewN (HW _).out _)) HM.out.s4).mono ?_
                       rintro e w' ⟨rfl, hb⟩
                       have HB : Hid (Below w.heap.size w w') := (below_drewN (HW _).out _).trans (hb.mono (below_drewN (HW _).out _).size)
                       clear hb))
                  all_goals go_wp2
                  all_goals go_ret
                  all_goals exact ⟨ret_bool (HEND.out.trans HFIT.out).symm, HB.out⟩
        | false =>
          go_wp2_with fail
          refine (l3Plain_any lo _ Fs m.fr _ (HST.out.below (HW _).out)).mono ?_
          rintro e w1 ⟨rfl, rfl⟩
          cases hpr : plainB Fs m.fr with
          | false =>
            go_wp2
            go_ret
            exact ⟨ret_bool (by rw [HQ.out]; unfold mendS formB; simp [hpf, hwe, hfe, hpr]), (HW _).out⟩
          | true =>
            cases hb1 : (m.wh.toList == m.field.toList) with
            | true =>
              go_wp2
              go_ret
              exact ⟨ret_bool (by rw [HQ.out]; unfold mendS formB; simp [hpf, hwe, hfe, hpr, hb1]), (HW _).out⟩
            | false =>
              cases hb2 : (m.fr.toList == m.field.toList) with
              | true =>
                go_wp2
                go_ret
                exact ⟨ret_bool (by rw [HQ.out]; unfold mendS formB; simp [hpf, hwe, hfe, hpr, hb1, hb2]), (HW _).out⟩
              | false =>
                cases his : m.is.toList.isEmpty with
                | false =>
                  go_wp2
                  go_ret
                  exact ⟨ret_bool (by rw [HQ.out]; unfold mendS formB; simp [hpf, hwe, hfe, hpr, hb1, hb2, his]), (HW _).out⟩
                | true =>
                  cases hpu : m.put.toList.isEmpty with
                  | true =>
                    go_wp2
                    go_quiet (fail)
                    go_wp2
                    go_ret
                    exact ⟨ret_bool (by rw [HQ.out]; unfold mendS formB; simp [hpf, hwe, hfe, hpr, hb1, hb2, his, hpu]), below_drewN (HW _).out _⟩
                  | false =>
                    go_wp2
                    go_ret
                    exact ⟨ret_bool (by rw [HQ.out]; unfold mendS formB; simp [hpf, hwe, hfe, hpr, hb1, hb2, his, hpu]), (HW _).out⟩
      | false =>
        go_wp2_with fail
        refine (l3Plain_any lo _ Fs m.wh _ (HST.out.below (HW _).out)).mono ?_
        rintro e w1 ⟨rfl, rfl⟩
        cases hpw : plainB Fs m.wh with
        | false =>
          go_wp2
          go_ret
          exact ⟨ret_bool (by rw [HQ.out]; unfold mendS formB; simp [hpf, hwe, hpw]), (HW _).out⟩
        | true =>
          cases hfe : m.fr.toList.isEmpty with
          | true =>
            cases hb1 : (m.wh.toList == m.field.toList) with
            | true =>
              go_wp2
              go_ret
              exact ⟨ret_bool (by rw [HQ.out]; unfold mendS formB; simp [hpf, hwe, hpw, hfe, hb1]), (HW _).out⟩
            | false =>
              cases hb2 : (m.fr.toList == m.field.toList) with
              | true =>
                go_wp2
                go_ret
                exact ⟨ret_bool (by rw [HQ.out]; unfold mendS formB; simp [hpf, hwe, hpw, hfe, hb1, hb2]), (HW _).out⟩
              | false =>
                cases hpu : m.put.toList.isEmpty with
                | true =>
                  go_wp2
                  go_ret
                  exact ⟨ret_bool (by rw [HQ.out]; unfold mendS formB; simp [hpf, hwe, hpw, hfe, hb1, hb2, hpu]), (HW _).out⟩
                | false =>
                  have hplt : plOf Fs m.field < Fs.length := plOf_lt.2 (plain_mem hpf)
                  have HPI : Hid (placeI Fs m.field = plOf Fs m.field) := placeI_lt hplt
                  obtain ⟨fb, fo, rfl, hfb, hfc⟩ := HST.out.full' (by omega)
                  obtain ⟨hfs, wv, hcell, hwd⟩ := hfc _ hplt
                  have HFIT : Hid (fitF Fs m.field m.put = fitsB Fs[plOf Fs m.field].kd Fs[plOf Fs m.field].le Fs[plOf Fs m.field].mo Fs[plOf Fs m.field].words m.put) := fitF_at hplt
                  obtain ⟨c0, c1, c2, c3, c4, c5, c6, c7, c8, c9, c10⟩ := hcell
                  have HWD := hide hwd
                  obtain ⟨wa, wn, wcap, rfl⟩ := hwd.form
                  have HEND : Hid (mendB Ss m = fitF Fs m.field m.put) := by unfold Hid; rw [HQ.out]; unfold mendS formB; simp [hpf, hwe, hpw, hfe, hb1, hb2, hpu]
                  clear hwd hfc hfs
                  generalize hpp : plOf Fs m.field = p at *
                  have hpm : (Fs.length : Int) ≤ 9223372036854775807 := by
                    rcases HST.out with ⟨_, _, h, _⟩ | ⟨_, _, _, _, _, h, _⟩
                    · injection h; omega
                    · unfold maxLen at h; omega
                  go_wp2
                  go_region_with (first
                    | (go_at_call 60
                       refine (l3Field_any lo _ Fs m.field _ (HST.out.below ((HW _).out.drew))).mono ?_
                       rintro e w' ⟨rfl, rfl⟩
                       rw [HPI.out])
                    | (go_at_call 59
                       refine (specFits_any _ _ _ _ _ _ _ _ _ _ Fs[p].words _ _ _ (HWD.out.at.below (below_drewN (HW _).out _)) HM.out.s4).mono ?_
                       rintro e w' ⟨rfl, hb⟩
                       have HB : Hid (Below w.heap.size w w') := (below_drewN (HW _).out _).trans (hb.mono (below_drewN (HW _).out _).size)
                       clear hb))
                  all_goals go_wp2
                  all_goals go_ret
                  all_goals exact ⟨ret_bool (HEND.out.trans HFIT.out).symm, HB.out⟩
          | false =>
            go_wp2_with fail
            refine (l3Plain_any lo _ Fs m.fr _ (HST.out.below (HW _).out)).mono ?_
            rintro e w1 ⟨rfl, rfl⟩
            cases hpr : plainB Fs m.fr with
            | false =>
              go_wp2
              go_ret
              exact ⟨ret_bool (by rw [HQ.out]; unfold mendS formB; simp [hpf, hwe, hpw, hfe, hpr]), (HW _).out⟩
            | true =>
              cases hb1 : (m.wh.toList == m.field.toList) with
              | true =>
                go_wp2
                go_ret
                exact ⟨ret_bool (by rw [HQ.out]; unfold mendS formB; simp [hpf, hwe, hpw, hfe, hpr, hb1]), (HW _).out⟩
              | false =>
                cases hb2 : (m.fr.toList == m.field.toList) with
                | true =>
                  go_wp2
                  go_ret
                  exact ⟨ret_bool (by rw [HQ.out]; unfold mendS formB; simp [hpf, hwe, hpw, hfe, hpr, hb1, hb2]), (HW _).out⟩
                | false =>
                  cases hpu : m.put.toList.isEmpty with
                  | true =>
                    go_wp2
                    go_quiet (fail)
                    go_wp2
                    go_ret
                    exact ⟨ret_bool (by rw [HQ.out]; unfold mendS formB; simp [hpf, hwe, hpw, hfe, hpr, hb1, hb2, hpu]), below_drewN (HW _).out _⟩
                  | false =>
                    go_wp2
                    go_ret
                    exact ⟨ret_bool (by rw [HQ.out]; unfold mendS formB; simp [hpf, hwe, hpw, hfe, hpr, hb1, hb2, hpu]), (HW _).out⟩
  · have HQ : Hid (mendB Ss m = false) := by unfold Hid mendB; rw [hsh]
    clear hsh
    go_wp2
    go_ret
    exact ⟨ret_bool HQ.out.symm, (HW _).out⟩
end Go.Proofs.YtjkkbkdpoebfaaaGreat
