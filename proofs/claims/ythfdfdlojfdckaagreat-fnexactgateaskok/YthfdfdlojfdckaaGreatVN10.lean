import Derived.Test.YthfdfdlojfdckaaGreatVN9
import Derived.Test.YthfdfdlojfdckaaGreatVS15
import Derived.Test.YthfdfdlojfdckaaGreatVB1
import Derived.Test.YthfdfdlojfdckaaGreatVA1
import Derived.Test.YthfdfdlojfdckaaGreatVP1
import Derived.Test.YthfdfdlojfdckaaGreatVDA
import Derived.Test.YthfdfdlojfdckaaGreatVNA
import Derived.Test.YthfdfdlojfdckaaGreatVA2
namespace Go.Proofs.YthfdfdlojfdckaaGreat
open Go.RowKit Go.Deep

set_option maxHeartbeats 2000000 in
theorem readOk_any (lo : Nat) (kind : ByteArray) (v : Value) (Fs : List Fd) (field name : ByteArray) (w : World) (hv : FdsAt lo w v Fs) :
    Calls Tryz.prog 203 #[.agg #[.string kind, v], .string field, .string name] w fun e w' => e = .returned (.bool (readB Fs field name)) ∧ Below w.heap.size w w' := by
  have HV := hide hv
  obtain ⟨a, cap, rfl⟩ := hv.form
  clear hv
  have HW : ∀ o, Hid (Below w.heap.size w (w.alloc o)) := fun o => (Below.refl _ _).alloc (Nat.le_refl _) _
  go_enter Tryz.func203, Tryz.ntmps203
  go_wp2_with fail
  refine (mendable_any lo _ _ Fs name w _ HV.out (HW _).out).mono ?_
  rintro e w1 ⟨hb1, hr⟩
  have HB1 : Hid (Below w.heap.size w w1) := (HW _).out.trans (hb1.mono (by simp))
  have HB2 : ∀ o, Hid (Below w.heap.size w (w1.alloc o)) := fun o => HB1.out.alloc HB1.out.size _
  clear hb1
  rcases hr with ⟨f, wv, hff, hpl, rfl, hwd⟩ | ⟨hpl, rfl⟩
  · obtain ⟨wa, wn, wcap, rfl⟩ := hwd.form
    clear hwd hff
    cases hne : name.toList.isEmpty with
    | true =>
      go_wp2
      go_ret
      exact ⟨ret_bool (by unfold readB; simp [hne]), (HB2 _).out⟩
    | false =>
      cases hnf : (name.toList == field.toList) with
      | true =>
        go_wp2
        go_ret
        exact ⟨ret_bool (by unfold readB; simp [hne, hnf, hpl]), (HB2 _).out⟩
      | false =>
        go_wp2
        go_ret
        exact ⟨ret_bool (by unfold readB; simp [hne, hnf, hpl]), (HB2 _).out⟩
  · cases hne : name.toList.isEmpty with
    | true =>
      go_wp2
      go_ret
      exact ⟨ret_bool (by unfold readB; simp [hne]), (HB2 _).out⟩
    | false =>
      go_wp2
      go_ret
      exact ⟨ret_bool (by unfold readB; simp [hne, hpl]), (HB2 _).out⟩

set_option maxRecDepth 20000 in
set_option maxHeartbeats 4000000 in
theorem mendOk_any (lo : Nat) (kind : ByteArray) (v : Value) (Fs : List Fd) (m : Md) (w0 w : World) (hv : FdsAt lo w0 v Fs) (h0 : Below w0.heap.size w0 w) (hm : MdSize m) :
    Calls Tryz.prog 173 #[.agg #[.string kind, v], .agg #[.string m.kind, .string m.field, .string m.wh, .string m.is, .string m.put, .string m.fr]] w fun e w' => e = .returned (.bool (mendI Fs m)) ∧ Below w.heap.size w w' := by
  have HV := hide hv
  have H0 := hide h0
  have HM := hide hm
  obtain ⟨a, cap, rfl⟩ := hv.form
  clear hv h0 hm
  go_enter Tryz.func173, Tryz.ntmps173
  go_wp2_with fail
  generalize hWa : w.alloc _ = Wa
  have hza : Wa.heap.size = w.heap.size + 1 := by rw [← hWa]; simp
  have HBa : Hid (Below w.heap.size w Wa) := by rw [← hWa]; exact one_al _ _
  have FS : Hid (Box Wa w.heap.size #[.string kind, .slice a Fs.length cap]) := by rw [← hWa]; exact Box.new _ _ _ _ rfl
  clear hWa
  generalize hWb : Wa.alloc _ = Wb
  have hbb : Below Wa.heap.size Wa Wb := by rw [← hWb]; exact one_al _ _
  have HBb : Hid (Below w.heap.size w Wb) := HBa.out.trans (hbb.mono (by omega))
  have FS := hide (FS.out.on hbb)
  have FM : Hid (Box Wb (w.heap.size + 1) #[.string m.kind, .string m.field, .string m.wh, .string m.is, .string m.put, .string m.fr]) := by rw [← hWb]; exact Box.new _ _ _ _ hza
  clear hWb hbb HBa hza
  refine (mendable_any lo _ _ Fs m.field w0 _ HV.out (H0.out.trans (HBb.out.mono H0.out.size))).mono ?_
  rintro e w1 ⟨hb1, hr⟩
  have FS := hide (FS.out.on hb1)
  have FM := hide (FM.out.on hb1)
  have HB1 : Hid (Below w.heap.size w w1) := HBb.out.trans (hb1.mono HBb.out.size)
  clear hb1 HBb
  rcases hr with ⟨f, wv, hff, hpl, rfl, hwd⟩ | ⟨hpl, rfl⟩
  · obtain ⟨wa, wn, wcap, rfl⟩ := hwd.form
    have HWD := hide hwd
    have HFIT : Hid (fitF Fs m.field m.put = fitsB f.kd f.le f.mo f.words m.put) := by unfold Hid fitF; rw [hff]
    clear hwd hff
    have g1 := FS.out.cell
    have g2 := FM.out.cell
    have gl := FS.out.lt
    have gl2 := FM.out.lt
    go_wp2_with fail
    generalize hWc : w1.alloc _ = Wc
    have hbc : Below w1.heap.size w1 Wc := by rw [← hWc]; exact one_al _ _
    have FS := hide (FS.out.on hbc)
    have FM := hide (FM.out.on hbc)
    have FF : Hid (Box Wc w1.heap.size #[.string f.nm, .int .i64 f.kd, .int .i64 f.le, .int .i64 f.mo, (.slice wa wn wcap), .string f.to, .int .i64 f.ro, .bool f.mu, .bool f.fx, .string f.df, .string f.we]) := by rw [← hWc]; exact Box.new _ _ _ _ rfl
    have HBc : Hid (Below w.heap.size w Wc) := HB1.out.trans (hbc.mono HB1.out.size)
    clear hWc hbc HB1 g1 g2 gl gl2
    refine (readOk_any lo _ _ Fs m.field m.wh _ (HV.out.below (H0.out.trans (HBc.out.mono H0.out.size)))).mono ?_
    rintro e w2 ⟨rfl, hb2⟩
    have FS := hide (FS.out.on hb2)
    have FM := hide (FM.out.on hb2)
    have FF := hide (FF.out.on hb2)
    have HB2 : Hid (Below w.heap.size w w2) := HBc.out.trans (hb2.mono HBc.out.size)
    clear hb2 HBc
    cases hrw : readB Fs m.field m.wh with
    | false =>
      go_wp2
      go_ret
      exact ⟨ret_bool (by unfold mendI; simp [hpl, hrw]), HB2.out⟩
    | true =>
      have g1 := FS.out.cell
      have g2 := FM.out.cell
      have gl := FS.out.lt
      have gl2 := FM.out.lt
      go_wp2_with fail
      clear g1 g2 gl gl2
      refine (readOk_any lo _ _ Fs m.field m.fr _ (HV.out.below (H0.out.trans (HB2.out.mono H0.out.size)))).mono ?_
      rintro e w3 ⟨rfl, hb3⟩
      have FM := hide (FM.out.on hb3)
      have FF := hide (FF.out.on hb3)
      have HB3 : Hid (Below w.heap.size w w3) := HB2.out.trans (hb3.mono HB2.out.size)
      clear hb3 HB2
      cases hrf : readB Fs m.field m.fr with
      | false =>
        go_wp2
        go_ret
        exact ⟨ret_bool (by unfold mendI; simp [hpl, hrw, hrf]), HB3.out⟩
      | true =>
        have g2 := FM.out.cell
        have gl2 := FM.out.lt
        cases hwe : m.wh.toList.isEmpty with
        | true =>
          cases his : m.is.toList.isEmpty with
          | false =>
            go_wp2
            go_ret
            exact ⟨ret_bool (by unfold mendI formB; simp [hpl, hrw, hrf, hwe, his]), HB3.out⟩
          | true =>
            cases hfe : m.fr.toList.isEmpty with
            | true =>
              cases hpu : m.put.toList.isEmpty with
              | true =>
                go_wp2
                go_ret
                exact ⟨ret_bool (by unfold mendI formB; simp [hpl, hrw, hrf, hwe, his, hfe, hpu]), HB3.out⟩
              | false =>
                have HEND : Hid (mendI Fs m = fitF Fs m.field m.put) := by unfold Hid mendI formB; simp [hpl, hrw, hrf, hwe, his, hfe, hpu]
                have g3 := FF.out.cell
                have gl3 := FF.out.lt
                go_wp2_with fail
                clear g2 g3 gl2 gl3
                refine (implFits_any _ _ _ _ _ _ _ _ _ _ f.words _ _ _ (HWD.out.at.below (H0.out.trans (HB3.out.mono H0.out.size))) HM.out.s4).mono ?_
                rintro e w4 ⟨rfl, hb4⟩
                have HB4 : Hid (Below w.heap.size w w4) := HB3.out.trans (hb4.mono HB3.out.size)
                clear hb4
                go_wp2
                go_ret
                exact ⟨ret_bool (HEND.out.trans HFIT.out).symm, HB4.out⟩
            | false =>
              cases hpu : m.put.toList.isEmpty with
              | true =>
                go_wp2
                go_ret
                exact ⟨ret_bool (by unfold mendI formB; simp [hpl, hrw, hrf, hwe, his, hfe, hpu]), HB3.out⟩
              | false =>
                go_wp2
                go_ret
                exact ⟨ret_bool (by unfold mendI formB; simp [hpl, hrw, hrf, hwe, his, hfe, hpu]), HB3.out⟩
        | false =>
          cases hfe : m.fr.toList.isEmpty with
          | true =>
            cases hpu : m.put.toList.isEmpty with
            | true =>
              go_wp2
              go_ret
              exact ⟨ret_bool (by unfold mendI formB; simp [hpl, hrw, hrf, hwe, hfe, hpu]), HB3.out⟩
            | false =>
              have HEND : Hid (mendI Fs m = fitF Fs m.field m.put) := by unfold Hid mendI formB; simp [hpl, hrw, hrf, hwe, hfe, hpu]
              have g3 := FF.out.cell
              have gl3 := FF.out.lt
              go_wp2_with fail
              clear g2 g3 gl2 gl3
              refine (implFits_any _ _ _ _ _ _ _ _ _ _ f.words _ _ _ (HWD.out.at.below (H0.out.trans (HB3.out.mono H0.out.size))) HM.out.s4).mono ?_
              rintro e w4 ⟨rfl, hb4⟩
              have HB4 : Hid (Below w.heap.size w w4) := HB3.out.trans (hb4.mono HB3.out.size)
              clear hb4
              go_wp2
              go_ret
              exact ⟨ret_bool (HEND.out.trans HFIT.out).symm, HB4.out⟩
          | false =>
            cases hpu : m.put.toList.isEmpty with
            | true =>
              go_wp2
              go_ret
              exact ⟨ret_bool (by unfold mendI formB; simp [hpl, hrw, hrf, hwe, hfe, hpu]), HB3.out⟩
            | false =>
              go_wp2
              go_ret
              exact ⟨ret_bool (by unfold mendI formB; simp [hpl, hrw, hrf, hwe, hfe, hpu]), HB3.out⟩
  · have g1 := FS.out.cell
    have g2 := FM.out.cell
    go_wp2
    go_ret
    exact ⟨ret_bool (by unfold mendI; simp [hpl]), HB1.out.alloc HB1.out.size _⟩
end Go.Proofs.YthfdfdlojfdckaaGreat

