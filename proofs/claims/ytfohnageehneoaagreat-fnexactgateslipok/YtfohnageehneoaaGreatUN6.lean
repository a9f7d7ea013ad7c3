import Derived.Test.YtfohnageehneoaaGreatUNA
import Derived.Test.YtfohnageehneoaaGreatUDA
import Derived.Test.YtfohnageehneoaaGreatUB5
import Derived.Test.YtfohnageehneoaaGreatUB1
import Derived.Test.YtfohnageehneoaaGreatUP1
import Derived.Test.YtfohnageehneoaaGreatUA1
import Derived.Test.YtfohnageehneoaaGreatUA2
import Derived.Test.YtfohnageehneoaaGreatUB4
namespace Go.Proofs.YtfohnageehneoaaGreat
open Go.RowKit Go.Deep

set_option maxRecDepth 20000 in
set_option maxHeartbeats 4000000 in
theorem l3Row_any (lo lm : Nat) (fv mv : Value) (x : Sh) (Ms : List Md) (w : World) (hf : FdsAt lo w fv x.fields) (hv : MdsAt lm w mv Ms) (hn : x.fields.length ≤ 1048576) :
    Calls Tryz.prog 186 #[.agg #[.string x.kind, fv], mv] w fun e w' => ∃ v R, e = .returned v ∧ Below w.heap.size w w' ∧ OwnS w.heap.size w' v R ∧ RowOf x Ms R := by
  obtain ⟨i0, hi, hz0, hz1, hz2⟩ := info_parts Tryz.info9
  have HF := hide hf
  have HV := hide hv
  obtain ⟨a, cap, rfl⟩ := hf.form
  obtain ⟨ma, mcap, rfl⟩ := hv.form
  clear hf hv
  have HW : ∀ o, Hid (Below w.heap.size w (w.alloc o)) := fun o => (Below.refl _ _).alloc (Nat.le_refl _) _
  go_enter Tryz.func186, Tryz.ntmps186
  go_wp2
  generalize hW0 : w.alloc _ = W0
  have hz0' : W0.heap.size = w.heap.size + 1 := by rw [← hW0]; simp
  have HB0 : Hid (Below w.heap.size w W0) := by rw [← hW0]; exact (HW _).out
  have g0 : ∀ i, W0.cell? ⟨w.heap.size, i, none⟩ = (#[.string x.kind, .slice a x.fields.length cap] : Array Value)[i]? := fun i => by rw [← hW0]; exact new_cell _ _ _ _ _ rfl
  clear hW0
  have HI := hide (And.intro hi (And.intro hz0 (And.intro hz1 hz2)))
  have HG0 := hide g0
  clear g0 hi hz0 hz1 hz2
  go_loopw [5, 6] (fun v i wr => ∃ (n : Nat) (R : List ByteArray), i = .int .i64 n ∧ n ≤ x.fields.length ∧ OwnS (w.heap.size + 1) wr v R ∧ Below (w.heap.size + 1) W0 wr ∧ Good (namesF x.fields) (readsOf x.kind Ms) R ∧ (R.length = n ∨ Stuck (namesF x.fields) (readsOf x.kind Ms) R)) (fun _ i _ => x.fields.length - (intOf i).toNat)
  case atStart => exact ⟨0, [], rfl, by omega, OwnS.made W0 _ hz0' (Nat.le_refl _), (Below.refl _ _).alloc (by omega) _, Good.nil, Or.inl rfl⟩
  case round =>
    obtain ⟨n, R, rfl, hnn, hown, hb, hgood, hcase⟩ := hrel
    have HO := hide hown
    have HB := hide hb
    have HGD := hide hgood
    have HC := hide hcase
    obtain ⟨va, vcap, rfl⟩ := hown.form
    have q1 : wr.cell? ⟨w.heap.size, 1, none⟩ = some (.slice a x.fields.length cap) := by rw [hb.cell (p := ⟨w.heap.size, 1, none⟩) (by simp)]; exact HG0.out 1
    clear hown hb hgood hcase
    by_cases hlt : n < x.fields.length
    · go_wp2
      go_loopw [5, 7] (fun v i wi => ∃ (k : Nat), v = .slice va R.length vcap ∧ i = .int .i64 k ∧ k ≤ x.fields.length ∧ OwnS (w.heap.size + 1) wi v R ∧ Below (w.heap.size + 1) W0 wi ∧ NoneYet x.fields (readsOf x.kind Ms) R k) (fun _ i _ => x.fields.length - (intOf i).toNat)
      case atStart => exact ⟨0, rfl, rfl, by omega, HO.out, HB.out, fun i _ h => by omega⟩
      case round =>
        obtain ⟨k, rfl, rfl, hk, hown, hb, hny⟩ := hrel
        have HOi := hide hown
        have HBi := hide hb
        have HN := hide hny
        have p0 : wr.cell? ⟨w.heap.size, 0, none⟩ = some (.string x.kind) := by rw [hb.cell (p := ⟨w.heap.size, 0, none⟩) (by simp)]; exact HG0.out 0
        have p1 : wr.cell? ⟨w.heap.size, 1, none⟩ = some (.slice a x.fields.length cap) := by rw [hb.cell (p := ⟨w.heap.size, 1, none⟩) (by simp)]; exact HG0.out 1
        have HBw : Hid (Below w.heap.size w wr) := HB0.out.trans (hb.mono (by omega))
        have hzr : w.heap.size + 1 ≤ wr.heap.size := by have := hb.size; omega
        clear hown hb hny q1
        by_cases hkl : k < x.fields.length
        · obtain ⟨fb, fo, rfl, hfb, hfc⟩ := HF.out.full' (by omega)
          obtain ⟨hfs, wv, hcell, _⟩ := hfc k hkl
          have c0 : wr.cell? ⟨fb, fo + k * 11, none⟩ = some (.string x.fields[k].nm) := by rw [HBw.out.cell (p := ⟨fb, _, none⟩) hfb]; exact hcell.c0
          have HSZ := hide hfs.s0
          clear hcell hfc hfs
          go_wp2_with fail
          refine (l1Has_any _ R x.fields[k].nm _ HOi.out.strs).mono ?_
          rintro e w1 ⟨rfl, rfl⟩
          cases hh : hasB R x.fields[k].nm with
          | true =>
            have HNX : Hid (NoneYet x.fields (readsOf x.kind Ms) R (k + 1)) := HN.out.succ hkl (Or.inl (hasB_mem.1 hh))
            go_wp2
            go_roundw
            case rel => exact ⟨k + 1, rfl, by go_num, by omega, HOi.out, HBi.out, HNX.out⟩
            case measure => simp [intOf]; omega
          | false =>
            go_wp2_with fail
            refine (l3Ready_any lm _ _ Ms x.kind x.fields[k].nm R _ (HV.out.below HBw.out) HOi.out.strs).mono ?_
            rintro e w2 ⟨rfl, hb2⟩
            have HO2 := hide (HOi.out.below hb2)
            have HB2 : Hid (Below (w.heap.size + 1) W0 w2) := HBi.out.trans (hb2.mono hzr)
            have hz2 : w.heap.size + 1 ≤ w2.heap.size := by have := hb2.size; omega
            clear hb2 p0 p1 c0
            cases hrd : readyB Ms x.kind x.fields[k].nm R with
            | false =>
              have HNX : Hid (NoneYet x.fields (readsOf x.kind Ms) R (k + 1)) := HN.out.succ hkl (Or.inr fun h => by rw [ready_all.2 h] at hrd; cases hrd)
              go_wp2
              go_roundw
              case rel => exact ⟨k + 1, rfl, by go_num, by omega, HO2.out, HB2.out, HNX.out⟩
              case measure => simp [intOf]; omega
            | true =>
              have HG1 : Hid (Good (namesF x.fields) (readsOf x.kind Ms) (R ++ [x.fields[k].nm])) := Good.snoc HGD.out (mem_namesF.2 ⟨k, hkl, rfl⟩) (hasB_not hh) (ready_all.1 hrd)
              have HC1 : Hid ((R ++ [x.fields[k].nm]).length = n + 1 ∨ Stuck (namesF x.fields) (readsOf x.kind Ms) (R ++ [x.fields[k].nm])) := by
                rcases HC.out with h | h
                · exact Or.inl (by rw [List.length_append, h]; rfl)
                · exact absurd (ready_all.1 hrd) (h _ (mem_namesF.2 ⟨k, hkl, rfl⟩) (hasB_not hh))
              have HRL : Hid (R.length ≤ 1048576) := Nat.le_trans (good_len HGD.out) hn
              clear hh hrd
              go_wp2_with (at_builtin; refine wpList_append_lies _ rfl (.tmp 42) (.tmp 44) 59 rfl (w.heap.size + 1) 9 i0 (.string ⟨#[]⟩) 1 16 Tryz.underlying59 HI.out.1 HI.out.2.1 HI.out.2.2.1 HI.out.2.2.2 rfl (by decide) _ _ _ rfl (HO2.out.below ((Below.refl _ _).alloc (Nat.le_refl _) _)).row ⟨w2.heap.size, 0, none⟩ 1 1 [.string x.fields[k].nm] rfl rfl (cell_new1 _ _ _ _ rfl) (one_oneCell _) (by decide) (by have := HRL.out; unfold maxLen; omega) (by have := HRL.out; omega) (by simp; omega) _ rfl ?_; intro g cap1 w3 hown3 hgrow3 hat3 hlt3)
              exact ⟨⟨n + 1, R ++ [x.fields[k].nm], by go_num, by omega, HO2.out.snoc hown3 HSZ.out, (HB2.out.alloc (by omega) _).trans ((HO2.out.below ((Below.refl _ _).alloc (Nat.le_refl _) _)).grown hgrow3 (by simp; omega)), HG1.out, HC1.out⟩, by simp [intOf]; omega⟩
        · go_wp2
          exact ⟨⟨n + 1, R, by go_num, by omega, HOi.out, HBi.out, HGD.out, Or.inr (HN.out.stuck (by omega))⟩, by simp [intOf]; omega⟩
    · go_wp2
      go_ret
      exact ⟨_, R, rfl, HB0.out.trans (HB.out.mono (by omega)), HO.out.mono (by omega), RowOf.mk' HGD.out (by omega) HC.out⟩
end Go.Proofs.YtfohnageehneoaaGreat

namespace Go.Proofs.YtfohnageehneoaaGreat
open Go.RowKit Go.Deep

set_option maxRecDepth 20000 in
set_option maxHeartbeats 8000000 in
theorem l3MendOk_any (lo : Nat) (sv : Value) (Ss : List Sh) (m : Md) (w : World) (hS : ShsAt lo w sv Ss) (hm : MdSize m) :
    Calls Tryz.prog 185 #[sv, .agg #[.string m.kind, .string m.field, .string m.wh, .string m.is, .string m.put, .string m.fr]] w fun e w' => e = .returned (.bool (mendB Ss m)) ∧ Below w.heap.size w w' := by
  have HS := hide hS
  have HM := hide hm
  obtain ⟨a1, cap1, rfl⟩ := hS.form
  clear hS hm
  have HW : ∀ o, Hid (Below w.heap.size w (w.alloc o)) := fun o => (Below.refl _ _).alloc (Nat.le_refl _) _
  go_enter Tryz.func185, Tryz.ntmps185
  go_wp2_with fail
  refine (l1ShapeK_any lo _ Ss m.kind _ (HS.out.below (HW _).out)).mono ?_
  rintro e w1 ⟨rfl, ⟨k, hk, rfl, hsh⟩ | ⟨rfl, hsh⟩⟩
  · obtain ⟨b, off, rfl, hbw, hc⟩ := HS.out.full' (by omega)
    obtain ⟨_, fv, d0, d1, hst⟩ := hc k hk
    obtain ⟨fa, fcap, rfl⟩ := hst.form
    have HST := hide hst
    have d1' : ∀ o, (w.alloc o).cell? ⟨b, off + k * 2 + 1, none⟩ = some (.slice fa Ss[k].fields.length fcap) := fun o => by rw [cell_alloc_lt _ _ _ _ hbw]; exact d1
    have HQ : Hid (mendB Ss m = mendS Ss[k].fields m) := by unfold Hid mendB; rw [hsh, List.getElem?_eq_getElem hk]
    clear d0 d1 hst hc hsh
    generalize hF : Ss[k].fields = Fs at *
    clear hF
    go_wp2_with fail
    refine (l3Plain_any lo _ Fs m.field _ (HST.out.below (HW _).out)).mono ?_
    rintro e w1 ⟨rfl, rfl⟩
    cases hpf : plainB Fs m.field with
    | false =>
      go_wp2
      go_ret
      exact ⟨ret_bool (by rw [HQ.out]; unfold mendS formB; simp [hpf]), (HW _).out⟩
    | true =>
      cases hwe : m.wh.toList.isEmpty with
      | true =>
        cases hfe : m.fr.toList.isEmpty with
        | true =>
          cases hb1 : (m.wh.toList == m.field.toList) with
          | true =>
            go_wp2
            go_ret
            exact ⟨ret_bool (by rw [HQ.out]; unfold mendS formB; simp [hpf, hwe, hfe, hb1]), (HW _).out⟩
          | false =>
            cases hb2 : (m.fr.toList == m.field.toList) with
            | true =>
              go_wp2
              go_ret
              exact ⟨ret_bool (by rw [HQ.out]; unfold mendS formB; simp [hpf, hwe, hfe, hb1, hb2]), (HW _).out⟩
            | false =>
              cases his : m.is.toList.isEmpty with
              | false =>
                go_wp2
                go_ret
                exact ⟨ret_bool (by rw [HQ.out]; unfold mendS formB; simp [hpf, hwe, hfe, hb1, hb2, his]), (HW _).out⟩
              | true =>
                cases hpu : m.put.toList.isEmpty with
                | true =>
                  go_wp2
                  go_ret
                  exact ⟨ret_bool (by rw [HQ.out]; unfold mendS formB; simp [hpf, hwe, hfe, hb1, hb2, his, hpu]), (HW _).out⟩
                | false =>
                  have hplt : plOf Fs m.field < Fs.length := plOf_lt.2 (plain_mem hpf)
                  have HPI : Hid (placeI Fs m.field = plOf Fs m.field) := placeI_lt hplt
                  obtain ⟨fb, fo, rfl, hfb, hfc⟩ := HST.out.full' (by omega)
                  obtain ⟨hfs, wv, hcell, hwd⟩ := hfc _ hplt
                  have HFIT : Hid (fitF Fs m.field m.put = fitsB Fs[plOf Fs m.field].kd Fs[plOf Fs m.field].le Fs[plOf Fs m.field].mo Fs[plOf Fs m.field].words m.put) := fitF_at hplt
                  obtain ⟨c0, c1, c2, c3, c4, c5, c6, c7, c8, c9, c10⟩ := hcell
                  have HWD := hide hwd
                  obtain ⟨wa, wn, wcap, rfl⟩ := hwd.form
                  have HEND : Hid (mendB Ss m = fitF Fs m.field m.put) := by unfold Hid; rw [HQ.out]; unfold mendS formB; simp [hpf, hwe, hfe, hb1, hb2, his, hpu]
                  clear hwd hfc hfs
                  generalize hpp : plOf Fs m.field = p at *
                  have hpm : (Fs.length : Int) ≤ 9223372036854775807 := by
                    rcases HST.out with ⟨_, _, h, _⟩ | ⟨_, _, _, _, _, h, _⟩
                    · injection h; omega
                    · unfold maxLen at h; omega
                  go_wp2
                  go_region_with (first
                    | (go_at_call 221
                       refine (l3Field_any lo _ Fs m.field _ (HST.out.below ((HW _).out.drew))).mono ?_
                       rintro e w' ⟨rfl, rfl⟩
                       rw [HPI.out])
                    | (go_at_call 199
                       refine (specFits_any _ _ _ _ _ _ _ _ _ _ Fs[p].words _ _ _ (HWD.out.at.below (below_drewN (HW _).out _)) HM.out.s4).mono ?_
                       rintro e w' ⟨rfl, hb⟩
                       have HB : Hid (Below w.heap.size w w') := (below_drewN (HW _).out _).trans (hb.mono (below_drewN (HW _).out _).size)
                       clear hb))
                  all_goals go_wp2
                  all_goals go_ret
                  all_goals exact ⟨ret_bool (HEND.out.trans HFIT.out).symm, HB.out⟩
        | false =>
          go_wp2_with fail
          refine (l3Plain_any lo _ Fs m.fr _ (HST.out.below (HW _).out)).mono ?_
          rintro e w1 ⟨rfl, rfl⟩
          cases hpr : plainB Fs m.fr with
          | false =>
            go_wp2
            go_ret
            exact ⟨ret_bool (by rw [HQ.out]; unfold mendS formB; simp [hpf, hwe, hfe, hpr]), (HW _).out⟩
          | true =>
            cases hb1 : (m.wh.toList == m.field.toList) with
            | true =>
              go_wp2
              go_ret
              exact ⟨ret_bool (by rw [HQ.out]; unfold mendS formB; simp [hpf, hwe, hfe, hpr, hb1]), (HW _).out⟩
            | false =>
              cases hb2 : (m.fr.toList == m.field.toList) with
              | true =>
                go_wp2
                go_ret
                exact ⟨ret_bool (by rw [HQ.out]; unfold mendS formB; simp [hpf, hwe, hfe, hpr, hb1, hb2]), (HW _).out⟩
              | false =>
                cases his : m.is.toList.isEmpty with
                | false =>
                  go_wp2
                  go_ret
                  exact ⟨ret_bool (by rw [HQ.out]; unfold mendS formB; simp [hpf, hwe, hfe, hpr, hb1, hb2, his]), (HW _).out⟩
                | true =>
                  cases hpu : m.put.toList.isEmpty with
                  | true =>
                    go_wp2
                    go_quiet (fail)
                    go_wp2
                    go_ret
                    exact ⟨ret_bool (by rw [HQ.out]; unfold mendS formB; simp [hpf, hwe, hfe, hpr, hb1, hb2, his, hpu]), below_drewN (HW _).out _⟩
                  | false =>
                    go_wp2
                    go_ret
                    exact ⟨ret_bool (by rw [HQ.out]; unfold mendS formB; simp [hpf, hwe, hfe, hpr, hb1, hb2, his, hpu]), (HW _).out⟩
      | false =>
        go_wp2_with fail
        refine (l3Plain_any lo _ Fs m.wh _ (HST.out.below (HW _).out)).mono ?_
        rintro e w1 ⟨rfl, rfl⟩
        cases hpw : plainB Fs m.wh with
        | false =>
          go_wp2
          go_ret
          exact ⟨ret_bool (by rw [HQ.out]; unfold mendS formB; simp [hpf, hwe, hpw]), (HW _).out⟩
        | true =>
          cases hfe : m.fr.toList.isEmpty with
          | true =>
            cases hb1 : (m.wh.toList == m.field.toList) with
            | true =>
              go_wp2
              go_ret
              exact ⟨ret_bool (by rw [HQ.out]; unfold mendS formB; simp [hpf, hwe, hpw, hfe, hb1]), (HW _).out⟩
            | false =>
              cases hb2 : (m.fr.toList == m.field.toList) with
              | true =>
                go_wp2
                go_ret
                exact ⟨ret_bool (by rw [HQ.out]; unfold mendS formB; simp [hpf, hwe, hpw, hfe, hb1, hb2]), (HW _).out⟩
              | false =>
                cases hpu : m.put.toList.isEmpty with
                | true =>
                  go_wp2
                  go_ret
                  exact ⟨ret_bool (by rw [HQ.out]; unfold mendS formB; simp [hpf, hwe, hpw, hfe, hb1, hb2, hpu]), (HW _).out⟩
                | false =>
                  have hplt : plOf Fs m.field < Fs.length := plOf_lt.2 (plain_mem hpf)
                  have HPI : Hid (placeI Fs m.field = plOf Fs m.field) := placeI_lt hplt
                  obtain ⟨fb, fo, rfl, hfb, hfc⟩ := HST.out.full' (by omega)
                  obtain ⟨hfs, wv, hcell, hwd⟩ := hfc _ hplt
                  have HFIT : Hid (fitF Fs m.field m.put = fitsB Fs[plOf Fs m.field].kd Fs[plOf Fs m.field].le Fs[plOf Fs m.field].mo Fs[plOf Fs m.field].words m.put) := fitF_at hplt
                  obtain ⟨c0, c1, c2, c3, c4, c5, c6, c7, c8, c9, c10⟩ := hcell
                  have HWD := hide hwd
                  obtain ⟨wa, wn, wcap, rfl⟩ := hwd.form
                  have HEND : Hid (mendB Ss m = fitF Fs m.field m.put) := by unfold Hid; rw [HQ.out]; unfold mendS formB; simp [hpf, hwe, hpw, hfe, hb1, hb2, hpu]
                  clear hwd hfc hfs
                  generalize hpp : plOf Fs m.field = p at *
                  have hpm : (Fs.length : Int) ≤ 9223372036854775807 := by
                    rcases HST.out with ⟨_, _, h, _⟩ | ⟨_, _, _, _, _, h, _⟩
                    · injection h; omega
                    · unfold maxLen at h; omega
                  go_wp2
                  go_region_with (first
                    | (go_at_call 221
                       refine (l3Field_any lo _ Fs m.field _ (HST.out.below ((HW _).out.drew))).mono ?_
                       rintro e w' ⟨rfl, rfl⟩
                       rw [HPI.out])
                    | (go_at_call 199
                       refine (specFits_any _ _ _ _ _ _ _ _ _ _ Fs[p].words _ _ _ (HWD.out.at.below (below_drewN (HW _).out _)) HM.out.s4).mono ?_
                       rintro e w' ⟨rfl, hb⟩
                       have HB : Hid (Below w.heap.size w w') := (below_drewN (HW _).out _).trans (hb.mono (below_drewN (HW _).out _).size)
                       clear hb))
                  all_goals go_wp2
                  all_goals go_ret
                  all_goals exact ⟨ret_bool (HEND.out.trans HFIT.out).symm, HB.out⟩
          | false =>
            go_wp2_with fail
            refine (l3Plain_any lo _ Fs m.fr _ (HST.out.below (HW _).out)).mono ?_
            rintro e w1 ⟨rfl, rfl⟩
            cases hpr : plainB Fs m.fr with
            | false =>
              go_wp2
              go_ret
              exact ⟨ret_bool (by rw [HQ.out]; unfold mendS formB; simp [hpf, hwe, hpw, hfe, hpr]), (HW _).out⟩
            | true =>
              cases hb1 : (m.wh.toList == m.field.toList) with
              | true =>
                go_wp2
                go_ret
                exact ⟨ret_bool (by rw [HQ.out]; unfold mendS formB; simp [hpf, hwe, hpw, hfe, hpr, hb1]), (HW _).out⟩
              | false =>
                cases hb2 : (m.fr.toList == m.field.toList) with
                | true =>
                  go_wp2
                  go_ret
                  exact ⟨ret_bool (by rw [HQ.out]; unfold mendS formB; simp [hpf, hwe, hpw, hfe, hpr, hb1, hb2]), (HW _).out⟩
                | false =>
                  cases hpu : m.put.toList.isEmpty with
                  | true =>
                    go_wp2
                    go_quiet (fail)
                    go_wp2
                    go_ret
                    exact ⟨ret_bool (by rw [HQ.out]; unfold mendS formB; simp [hpf, hwe, hpw, hfe, hpr, hb1, hb2, hpu]), below_drewN (HW _).out _⟩
                  | false =>
                    go_wp2
                    go_ret
                    exact ⟨ret_bool (by rw [HQ.out]; unfold mendS formB; simp [hpf, hwe, hpw, hfe, hpr, hb1, hb2, hpu]), (HW _).out⟩
  · have HQ : Hid (mendB Ss m = false) := by unfold Hid mendB; rw [hsh]
    clear hsh
    go_wp2
    go_ret
    exact ⟨ret_bool HQ.out.symm, (HW _).out⟩
end Go.Proofs.YtfohnageehneoaaGreat

namespace Go.Proofs.YtfohnageehneoaaGreat
open Go.RowKit Go.Deep

theorem mends_bad {Ss : List Sh} {Ms : List Md} (h : shapesB Ss = false) : mendsB Ss Ms = false := by unfold mendsB; rw [h]; rfl
theorem mends_many {Ss : List Sh} {Ms : List Md} (h : 12 < Ms.length) : mendsB Ss Ms = false := by
  unfold mendsB
  rw [show decide (Ms.length ≤ 12) = false from decide_eq_false (by omega)]; simp
theorem mends_one {Ss : List Sh} {Ms : List Md} {k : Nat} (hk : k < Ms.length) (h : mendB Ss Ms[k] = false) : mendsB Ss Ms = false := by
  unfold mendsB
  rw [show Ms.all (mendB Ss) = false from by rw [List.all_eq_false]; exact ⟨Ms[k], List.getElem_mem hk, by simp [h]⟩]; simp
theorem mends_row {Ss : List Sh} {Ms : List Md} {k : Nat} (hk : k < Ss.length) (h : shapeRowB Ms Ss[k] = false) : mendsB Ss Ms = false := by
  unfold mendsB
  rw [show Ss.all (shapeRowB Ms) = false from by rw [List.all_eq_false]; exact ⟨Ss[k], List.getElem_mem hk, by simp [h]⟩]; simp
theorem mends_all {Ss : List Sh} {Ms : List Md} (h1 : shapesB Ss = true) (h2 : Ms.length ≤ 12) (h3 : ∀ i (h : i < Ms.length), mendB Ss Ms[i] = true) (h4 : ∀ i (h : i < Ss.length), shapeRowB Ms Ss[i] = true) : mendsB Ss Ms = true := by
  unfold mendsB
  simp only [Bool.and_eq_true, List.all_eq_true, decide_eq_true_eq]
  refine ⟨⟨⟨h1, h2⟩, fun m hm => ?_⟩, fun x hx => ?_⟩
  · obtain ⟨i, hi, rfl⟩ := List.getElem_of_mem hm; exact h3 i hi
  · obtain ⟨i, hi, rfl⟩ := List.getElem_of_mem hx; exact h4 i hi

set_option maxRecDepth 20000 in
set_option maxHeartbeats 4000000 in
theorem specMends_any (lo lm : Nat) (sv mv : Value) (Ss : List Sh) (Ms : List Md) (w : World) (hS : ShsAt lo w sv Ss) (hM : MdsAt lm w mv Ms) :
    Calls Tryz.prog 139 #[sv, mv] w fun e w' => e = .returned (.bool (mendsB Ss Ms)) ∧ Below w.heap.size w w' := by
  have HS := hide hS
  have HM := hide hM
  obtain ⟨a1, cap1, rfl⟩ := hS.form
  obtain ⟨a2, cap2, rfl⟩ := hM.form
  clear hS hM
  go_enter Tryz.func139, Tryz.ntmps139
  go_wp2_with fail
  refine (specShapes_any lo _ Ss _ HS.out).mono ?_
  rintro e w1 ⟨rfl, hb1⟩
  have HB1 := hide hb1
  clear hb1
  have hml : (Ms.length : Int) ≤ 9223372036854775807 := by
    rcases HM.out with ⟨_, _, _, h⟩ | ⟨_, _, _, _, _, h, _⟩
    · rw [h]; simp
    · unfold maxLen at h; omega
  have hsl : (Ss.length : Int) ≤ 9223372036854775807 := by
    rcases HS.out with ⟨_, _, _, h⟩ | ⟨_, _, _, _, _, h, _⟩
    · rw [h]; simp
    · unfold maxLen at h; omega
  cases hsb : shapesB Ss with
  | false =>
    have HQ : Hid (mendsB Ss Ms = false) := mends_bad hsb
    go_wp2
    go_ret
    exact ⟨ret_bool HQ.out.symm, HB1.out⟩
  | true =>
    by_cases h12 : (Ms.length : Int) ≤ 12
    · have HSB := hide hsb
      clear hsb
      go_wp2
      go_loopw [5] (fun i wr => ∃ k : Nat, i = .int .i64 k ∧ k ≤ Ms.length ∧ Below w.heap.size w wr ∧ ∀ i (h : i < Ms.length), i < k → mendB Ss Ms[i] = true) (fun i _ => Ms.length - (intOf i).toNat)
      case atStart => exact ⟨0, rfl, by omega, HB1.out, fun i _ h => by omega⟩
      case round =>
        obtain ⟨k, rfl, hk, hb, hall⟩ := hrel
        have HA := hide hall
        have HB := hide hb
        clear hall hb
        by_cases hlt : k < Ms.length
        · obtain ⟨b, off, rfl, hbw, hc⟩ := HM.out.full' (by omega)
          obtain ⟨hsz, hcell⟩ := hc k hlt
          obtain ⟨c0, c1, c2, c3, c4, c5⟩ := hcell.below HB.out hbw
          clear hcell hc
          go_wp2_with fail
          refine (l3MendOk_any lo _ Ss Ms[k] _ (HS.out.below HB.out) hsz).mono ?_
          rintro e w2 ⟨rfl, hb2⟩
          have HB2 : Hid (Below w.heap.size w w2) := HB.out.trans (hb2.mono HB.out.size)
          clear hb2 c0 c1 c2 c3 c4 c5
          cases hmb : mendB Ss Ms[k] with
          | false =>
            have HQ : Hid (mendsB Ss Ms = false) := mends_one hlt hmb
            go_wp2
            go_ret
            exact ⟨ret_bool HQ.out.symm, HB2.out⟩
          | true =>
            go_wp2
            go_roundw
            case rel => exact ⟨k + 1, by go_num, by omega, HB2.out, fun i h h' => by
                          by_cases e : i = k
                          · subst e; exact hmb
                          · exact HA.out i h (by omega)⟩
            case measure => simp [intOf]; omega
        · have HAll : Hid (∀ i (h : i < Ms.length), mendB Ss Ms[i] = true) := fun i h => HA.out i h (by omega)
          have HBx : Hid (Below w.heap.size w wr) := HB.out
          clear HA HB HB1
          go_wp2
          clear hlt hk
          rename_i wx _ _ _ _ _ _
          go_loopw [6] (fun i wr => ∃ k : Nat, i = .int .i64 k ∧ k ≤ Ss.length ∧ Below w.heap.size w wr ∧ ∀ i (h : i < Ss.length), i < k → shapeRowB Ms Ss[i] = true) (fun i _ => Ss.length - (intOf i).toNat)
          case atStart => exact ⟨0, rfl, by omega, HBx.out, fun i _ h => by omega⟩
          case round =>
            clear HBx
            obtain ⟨j, rfl, hj, hb, hall⟩ := hrel
            have HA := hide hall
            have HB := hide hb
            clear hall hb
            by_cases hlt : j < Ss.length
            · obtain ⟨b, off, rfl, hbw, hc⟩ := HS.out.full' (by omega)
              obtain ⟨hsz, fv, d0, d1, hst⟩ := hc j hlt
              have c0 : wr.cell? ⟨b, off + j * 2, none⟩ = some (.string Ss[j].kind) := by rw [HB.out.cell (p := ⟨b, _, none⟩) hbw]; exact d0
              have c1 : wr.cell? ⟨b, off + j * 2 + 1, none⟩ = some fv := by rw [HB.out.cell (p := ⟨b, _, none⟩) hbw]; exact d1
              obtain ⟨fa, fcap, rfl⟩ := hst.form
              have HST := hide (hst.below HB.out)
              have hbr : b < wr.heap.size := Nat.lt_of_lt_of_le hbw HB.out.size
              have h6 : Ss[j].fields.length ≤ 6 := fields_six (shapes_fields HSB.out (List.getElem_mem hlt))
              clear d0 d1 hst hc
              go_wp2
              go_region_with (go_at_call 186
                              refine (l3Row_any lo lm _ _ Ss[j] Ms _ (HST.out.below ((Below.refl _ _).drew)) (HM.out.below (HB.out.drew)) (by omega)).mono ?_
                              rintro e w2 ⟨v2, R, rfl, hb2, ho2, hro⟩
                              obtain ⟨ra, rcap, rfl⟩ := ho2.form
                              have HRO := hide hro
                              have HB2 : Hid (Below w.heap.size w w2) := (HB.out.drew).trans (hb2.mono HB.out.size)
                              have c1' : w2.cell? ⟨b, off + j * 2 + 1, none⟩ = some (.slice fa Ss[j].fields.length fcap) := (hb2.cell (p := ⟨b, off + j * 2 + 1, none⟩) hbr).trans c1
                              clear hb2 ho2 hro)
              all_goals
                by_cases hq : (R.length : Int) = (Ss[j].fields.length : Int)
                · have HSR : Hid (shapeRowB Ms Ss[j] = true) := HRO.out.2.2.1 (by omega)
                  go_wp2
                  go_roundw
                  case rel => exact ⟨j + 1, by go_num, by omega, HB2.out, fun i h h' => by
                                by_cases e : i = j
                                · subst e; exact HSR.out
                                · exact HA.out i h (by omega)⟩
                  case measure => simp [intOf]; omega
                · have HSR : Hid (shapeRowB Ms Ss[j] = false) := by
                    unfold Hid
                    cases h : shapeRowB Ms Ss[j] with
                    | false => rfl
                    | true => exact absurd (HRO.out.2.2.2 h) (by omega)
                  have HQ : Hid (mendsB Ss Ms = false) := mends_row hlt HSR.out
                  go_wp2
                  go_ret
                  exact ⟨ret_bool HQ.out.symm, HB2.out⟩
            · have HQ : Hid (mendsB Ss Ms = true) := mends_all HSB.out (by omega) HAll.out (fun i h => HA.out i h (by omega))
              go_wp2
              go_ret
              exact ⟨ret_bool HQ.out.symm, HB.out⟩
    · have HQ : Hid (mendsB Ss Ms = false) := mends_many (by omega)
      go_wp2
      go_ret
      exact ⟨ret_bool HQ.out.symm, HB1.out⟩
end Go.Proofs.YtfohnageehneoaaGreat

