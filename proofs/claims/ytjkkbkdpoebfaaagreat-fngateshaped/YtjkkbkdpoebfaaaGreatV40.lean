import Derived.Test.YtjkkbkdpoebfaaaGreatV34
import Derived.Test.YtjkkbkdpoebfaaaGreatV39
namespace Go.Proofs.YtjkkbkdpoebfaaaGreat
open Go.RowKit Go.Deep

theorem shapes_all {Ss : List Sh} {k : Nat} (h6 : Ss.length ≤ 6) (hk : Ss.length ≤ k) (h : ∀ i, i < k → shapeAt Ss i = true) : shapesB Ss = true := by
  unfold shapesB
  rw [range_all (fun i hi => h i (by omega))]
  simp [h6]

set_option maxRecDepth 100000 in
set_option maxHeartbeats 4000000 in
theorem implShapes_any (lo : Nat) (v : Value) (Ss : List Sh) (w : World) (hv : ShsAt lo w v Ss) :
    Calls Tryz.prog 23 #[v] w fun e w' => e = .returned (.bool (shapesB Ss)) ∧ Below w.heap.size w w' := by
  have HL := hide hv
  have HW : ∀ o, Hid (Below w.heap.size w (w.alloc o)) := fun o => (Below.refl _ _).alloc (Nat.le_refl _) _
  by_cases hL : Ss = []
  · subst hL
    obtain ⟨a, cap, rfl⟩ := hv.form
    clear hv
    go_enter Tryz.func23, Tryz.ntmps23
    go_wp2_with fail
    refine (makers_any _).mono ?_
    rintro e w1 ⟨rfl, rfl⟩
    go_wp2
    go_loop [12] (fun i => i = .int .i64 0) (fun _ => 0)
    case atStart => rfl
    case round =>
      subst hrel
      go_wp2
      go_ret
      exact ⟨rfl, (HW _).out⟩
  obtain ⟨b, off, cap, rfl, hm, hbw, hc⟩ := hv.full hL
  clear hv
  unfold maxLen at hm
  by_cases h6 : (Ss.length : Int) ≤ 6
  · go_enter Tryz.func23, Tryz.ntmps23
    go_wp2_with fail
    refine (makers_any _).mono ?_
    rintro e w1 ⟨rfl, hw1⟩
    have HB0 : Hid (Below w.heap.size w w1) := by unfold Hid; rw [hw1]; exact (HW _).out
    have HR0 : Hid (w1.heap[w.heap.size]? = some (.map makerEntries 4)) := by unfold Hid; rw [hw1]; exact (MapKept.heap_alloc w _).1
    have hz1 : w.heap.size < w1.heap.size := by rw [hw1]; simp
    clear hw1
    go_wp2
    go_loopw [12] (fun i wr => ∃ k : Nat, i = .int .i64 k ∧ k ≤ Ss.length ∧ Below w1.heap.size w1 wr ∧ ∀ i, i < k → shapeAt Ss i = true) (fun i _ => Ss.length - (intOf i).toNat)
    case atStart => exact ⟨0, rfl, by omega, Below.refl _ _, fun i h => by omega⟩
    case round =>
      obtain ⟨k, rfl, hk, hb1, hall⟩ := hrel
      have HA := hide hall
      have HB1 := hide hb1
      have HB : Hid (Below w.heap.size w wr) := HB0.out.trans (hb1.mono HB0.out.size)
      have HR : Hid (wr.heap[w.heap.size]? = some (.map makerEntries 4)) := by unfold Hid; rw [hb1.block w.heap.size hz1]; exact HR0.out
      clear hall hb1
      by_cases hlt : k < Ss.length
      · obtain ⟨hsz, fv, d0, d1, hst⟩ := hc k hlt
        have c0 : wr.cell? ⟨b, off + k * 2, none⟩ = some (.string Ss[k].kind) := by rw [HB.out.cell (p := ⟨b, _, none⟩) hbw]; exact d0
        have c1 : wr.cell? ⟨b, off + k * 2 + 1, none⟩ = some fv := by rw [HB.out.cell (p := ⟨b, _, none⟩) hbw]; exact d1
        have HST := hide hst
        obtain ⟨fa, fcap, rfl⟩ := hst.form
        clear d0 d1 hst
        have hbo : b < wr.heap.size := Nat.lt_of_lt_of_le hbw HB.out.size
        cases hnm : nameB Ss[k].kind with
        | false =>
          have HN : Hid (shapesB Ss = false) := by
            unfold Hid
            refine shapes_no hlt ?_
            cases k with
            | zero => rw [shapeAt_zero hlt, hnm]; rfl
            | succ j => rw [shapeAt_succ hlt, hnm]; rfl
          go_wp2
          go_quiet ((go_at_call 40; exact Calls.quiet_of_same (isName_any _ _ hsz)))
          go_wp2
          go_ret
          exact ⟨ret_bool HN.out.symm, below_drewN (HB.out.alloc HB.out.size _) _⟩
        | true =>
          cases k with
          | zero =>
            have HEQ : Hid (shapeAt Ss 0 = fieldsB Ss Ss[0].fields) := by unfold Hid; rw [shapeAt_zero hlt, hnm]; rfl
            have c0' : wr.cell? ⟨b, off, none⟩ = some (.string Ss[0].kind) := by simpa using c0
            have c1' : wr.cell? ⟨b, off + 1, none⟩ = some (.slice fa Ss[0].fields.length fcap) := by simpa using c1
            clear c0 c1
            go_wp2
            go_quiet ((go_at_call 40; exact Calls.quiet_of_same (isName_any _ _ hsz)))
            go_wp2_with fail
            have HBD : ∀ o n, Hid (Below w.heap.size w ((wr.alloc o).drewN n)) := fun o n => below_drewN (HB.out.alloc HB.out.size _) _
            have HRD : ∀ o n, Hid (((wr.alloc o).drewN n).heap[w.heap.size]? = some (.map makerEntries 4)) := fun o n => by
              unfold Hid
              rw [(below_drewN ((Below.refl wr.heap.size wr).alloc (Nat.le_refl _) o) n).block w.heap.size (Nat.lt_of_lt_of_le hz1 HB1.out.size)]; exact HR.out
            refine (fieldsOk_any w.heap.size lo lo _ _ Ss Ss[0].fields _ (HRD _ _).out (HL.out.below (HBD _ _).out) (HST.out.below (HBD _ _).out)).mono ?_
            rintro e w3 ⟨rfl, hb3⟩
            have HB3 : Hid (Below w.heap.size w w3) := (HBD _ _).out.trans (hb3.mono (HBD _ _).out.size)
            have HB13 : Hid (Below w1.heap.size w1 w3) := (below_drewN (HB1.out.alloc HB1.out.size _) _).trans (hb3.mono (below_drewN (HB1.out.alloc HB1.out.size _) _).size)
            clear hb3
            cases hfb : fieldsB Ss Ss[0].fields with
            | false =>
              have HN : Hid (shapesB Ss = false) := shapes_no hlt (by rw [HEQ.out]; exact hfb)
              go_wp2
              go_ret
              exact ⟨ret_bool HN.out.symm, HB3.out⟩
            | true =>
              have hnx : Hid (∀ i, i < 0 + 1 → shapeAt Ss i = true) := fun i hi => by
                by_cases e : i = 0
                · rw [e, HEQ.out]; exact hfb
                · exact HA.out i (by omega)
              go_wp2
              go_roundw
              case rel => exact ⟨0 + 1, by go_num, by omega, HB13.out, hnx.out⟩
              case measure => simp [intOf]; omega
          | succ jj =>
            obtain ⟨_, fvj, dj, _, _⟩ := hc jj (by omega)
            have cj : wr.cell? ⟨b, off + jj * 2, none⟩ = some (.string Ss[jj].kind) := by rw [HB.out.cell (p := ⟨b, _, none⟩) hbw]; exact dj
            clear dj
            have hjw : IntKind.i64.wrap (jj : Int) = jj := by rw [IntKind.wrap_i64]; omega
            have hjl : jj < Ss.length := by omega
            have hdl : decide ((jj : Int) + 1 < (Ss.length : Int)) = true := by simp; omega
            have cj2 : ∀ o, (wr.alloc o).cell? ⟨b, off + jj * 2, none⟩ = some (.string Ss[jj].kind) := fun o => by rw [((Below.refl wr.heap.size wr).alloc (Nat.le_refl _) o).cell (p := ⟨b, _, none⟩) hbo]; exact cj
            have cj3 : ∀ o n, ((wr.alloc o).drewN n).cell? ⟨b, off + jj * 2, none⟩ = some (.string Ss[jj].kind) := fun o n => cj2 o
            cases hls : Op.bytesLess Ss[jj].kind.toList Ss[jj + 1].kind.toList with
            | false =>
              have HN : Hid (shapesB Ss = false) := shapes_no hlt (by rw [shapeAt_succ hlt, hls]; simp)
              go_wp2
              go_quiet ((go_at_call 40; exact Calls.quiet_of_same (isName_any _ _ hsz)))
              go_wp2
              go_ret
              exact ⟨ret_bool HN.out.symm, below_drewN (HB.out.alloc HB.out.size _) _⟩
            | true =>
              have HEQ : Hid (shapeAt Ss (jj + 1) = fieldsB Ss Ss[jj + 1].fields) := by unfold Hid; rw [shapeAt_succ hlt, hnm, hls]; rfl
              go_wp2
              go_quiet ((go_at_call 40; exact Calls.quiet_of_same (isName_any _ _ hsz)))
              go_wp2_with fail
              have HBD : ∀ o n, Hid (Below w.heap.size w ((wr.alloc o).drewN n)) := fun o n => below_drewN (HB.out.alloc HB.out.size _) _
              have HRD : ∀ o n, Hid (((wr.alloc o).drewN n).heap[w.heap.size]? = some (.map makerEntries 4)) := fun o n => by
                unfold Hid
                rw [(below_drewN ((Below.refl wr.heap.size wr).alloc (Nat.le_refl _) o) n).block w.heap.size (Nat.lt_of_lt_of_le hz1 HB1.out.size)]; exact HR.out
              refine (fieldsOk_any w.heap.size lo lo _ _ Ss Ss[jj + 1].fields _ (HRD _ _).out (HL.out.below (HBD _ _).out) (HST.out.below (HBD _ _).out)).mono ?_
              rintro e w3 ⟨rfl, hb3⟩
              have HB3 : Hid (Below w.heap.size w w3) := (HBD _ _).out.trans (hb3.mono (HBD _ _).out.size)
              have HB13 : Hid (Below w1.heap.size w1 w3) := (below_drewN (HB1.out.alloc HB1.out.size _) _).trans (hb3.mono (below_drewN (HB1.out.alloc HB1.out.size _) _).size)
              clear hb3
              cases hfb : fieldsB Ss Ss[jj + 1].fields with
              | false =>
                have HN : Hid (shapesB Ss = false) := shapes_no hlt (by rw [HEQ.out]; exact hfb)
                go_wp2
                go_ret
                exact ⟨ret_bool HN.out.symm, HB3.out⟩
              | true =>
                have hnx : Hid (∀ i, i < jj + 1 + 1 → shapeAt Ss i = true) := fun i hi => by
                  by_cases e : i = jj + 1
                  · rw [e, HEQ.out]; exact hfb
                  · exact HA.out i (by omega)
                go_wp2
                go_roundw
                case rel => exact ⟨jj + 1 + 1, by go_num, by omega, HB13.out, hnx.out⟩
                case measure => simp [intOf]; omega
      · go_wp2
        go_ret
        exact ⟨ret_bool (shapes_all (by omega) (by omega) HA.out).symm, HB.out⟩
  · go_enter Tryz.func23, Tryz.ntmps23
    go_wp2
    go_ret
    exact ⟨ret_bool (by unfold shapesB; simp; intro h; omega), Below.refl _ _⟩
end Go.Proofs.YtjkkbkdpoebfaaaGreat
namespace Go.Proofs.YtjkkbkdpoebfaaaGreat
open Go.RowKit Go.Deep

set_option maxHeartbeats 2000000 in
theorem readOk_any (lo : Nat) (kind : ByteArray) (v : Value) (Fs : List Fd) (field name : ByteArray) (w : World) (hv : FdsAt lo w v Fs) :
    Calls Tryz.prog 73 #[.agg #[.string kind, v], .string field, .string name] w fun e w' => e = .returned (.bool (readB Fs field name)) ∧ Below w.heap.size w w' := by
  have HV := hide hv
  obtain ⟨a, cap, rfl⟩ := hv.form
  clear hv
  have HW : ∀ o, Hid (Below w.heap.size w (w.alloc o)) := fun o => (Below.refl _ _).alloc (Nat.le_refl _) _
  go_enter Tryz.func73, Tryz.ntmps73
  go_wp2_with fail
  refine (mendable_any lo _ _ Fs name w _ HV.out (HW _).out).mono ?_
  rintro e w1 ⟨hb1, hr⟩
  have HB1 : Hid (Below w.heap.size w w1) := (HW _).out.trans (hb1.mono (by simp))
  have HB2 : ∀ o, Hid (Below w.heap.size w (w1.alloc o)) := fun o => HB1.out.alloc HB1.out.size _
  clear hb1
  rcases hr with ⟨f, wv, hff, hpl, rfl, hwd⟩ | ⟨hpl, rfl⟩
  · obtain ⟨wa, wn, wcap, rfl⟩ := hwd.form
    clear hwd hff
    cases hne : name.toList.isEmpty with
    | true =>
      go_wp2
      go_ret
      exact ⟨ret_bool (by unfold readB; simp [hne]), (HB2 _).out⟩
    | false =>
      cases hnf : (name.toList == field.toList) with
      | true =>
        go_wp2
        go_ret
        exact ⟨ret_bool (by unfold readB; simp [hne, hnf, hpl]), (HB2 _).out⟩
      | false =>
        go_wp2
        go_ret
        exact ⟨ret_bool (by unfold readB; simp [hne, hnf, hpl]), (HB2 _).out⟩
  · cases hne : name.toList.isEmpty with
    | true =>
      go_wp2
      go_ret
      exact ⟨ret_bool (by unfold readB; simp [hne]), (HB2 _).out⟩
    | false =>
      go_wp2
      go_ret
      exact ⟨ret_bool (by unfold readB; simp [hne, hpl]), (HB2 _).out⟩

set_option maxRecDepth 20000 in
set_option maxHeartbeats 4000000 in
theorem mendOk_any (lo : Nat) (kind : ByteArray) (v : Value) (Fs : List Fd) (m : Md) (w0 w : World) (hv : FdsAt lo w0 v Fs) (h0 : Below w0.heap.size w0 w) (hm : MdSize m) :
    Calls Tryz.prog 42 #[.agg #[.string kind, v], .agg #[.string m.kind, .string m.field, .string m.wh, .string m.is, .string m.put, .string m.fr]] w fun e w' => e = .returned (.bool (mendI Fs m)) ∧ Below w.heap.size w w' := by
  have HV := hide hv
  have H0 := hide h0
  have HM := hide hm
  obtain ⟨a, cap, rfl⟩ := hv.form
  clear hv h0 hm
  go_enter Tryz.func42, Tryz.ntmps42
  go_wp2_with fail
  generalize hWa : w.alloc _ = Wa
  have hza : Wa.heap.size = w.heap.size + 1 := by rw [← hWa]; simp
  have HBa : Hid (Below w.heap.size w Wa) := by rw [← hWa]; exact one_al _ _
  have FS : Hid (Box Wa w.heap.size #[.string kind, .slice a Fs.length cap]) := by rw [← hWa]; exact Box.new _ _ _ _ rfl
  clear hWa
  generalize hWb : Wa.alloc _ = Wb
  have hbb : Below Wa.heap.size Wa Wb := by rw [← hWb]; exact one_al _ _
  have HBb : Hid (Below w.heap.size w Wb) := HBa.out.trans (hbb.mono (by omega))
  have FS := hide (FS.out.on hbb)
  have FM : Hid (Box Wb (w.heap.size + 1) #[.string m.kind, .string m.field, .string m.wh, .string m.is, .string m.put, .string m.fr]) := by rw [← hWb]; exact Box.new _ _ _ _ hza
  clear hWb hbb HBa hza
  refine (mendable_any lo _ _ Fs m.field w0 _ HV.out (H0.out.trans (HBb.out.mono H0.out.size))).mono ?_
  rintro e w1 ⟨hb1, hr⟩
  have FS := hide (FS.out.on hb1)
  have FM := hide (FM.out.on hb1)
  have HB1 : Hid (Below w.heap.size w w1) := HBb.out.trans (hb1.mono HBb.out.size)
  clear hb1 HBb
  rcases hr with ⟨f, wv, hff, hpl, rfl, hwd⟩ | ⟨hpl, rfl⟩
  · obtain ⟨wa, wn, wcap, rfl⟩ := hwd.form
    have HWD := hide hwd
    have HFIT : Hid (fitF Fs m.field m.put = fitsB f.kd f.le f.mo f.words m.put) := by unfold Hid fitF; rw [hff]
    clear hwd hff
    have g1 := FS.out.cell
    have g2 := FM.out.cell
    have gl := FS.out.lt
    have gl2 := FM.out.lt
    go_wp2_with fail
    generalize hWc : w1.alloc _ = Wc
    have hbc : Below w1.heap.size w1 Wc := by rw [← hWc]; exact one_al _ _
    have FS := hide (FS.out.on hbc)
    have FM := hide (FM.out.on hbc)
    have FF : Hid (Box Wc w1.heap.size #[.string f.nm, .int .i64 f.kd, .int .i64 f.le, .int .i64 f.mo, (.slice wa wn wcap), .string f.to, .int .i64 f.ro, .bool f.mu, .bool f.fx, .string f.df, .string f.we]) := by rw [← hWc]; exact Box.new _ _ _ _ rfl
    have HBc : Hid (Below w.heap.size w Wc) := HB1.out.trans (hbc.mono HB1.out.size)
    clear hWc hbc HB1 g1 g2 gl gl2
    refine (readOk_any lo _ _ Fs m.field m.wh _ (HV.out.below (H0.out.trans (HBc.out.mono H0.out.size)))).mono ?_
    rintro e w2 ⟨rfl, hb2⟩
    have FS := hide (FS.out.on hb2)
    have FM := hide (FM.out.on hb2)
    have FF := hide (FF.out.on hb2)
    have HB2 : Hid (Below w.heap.size w w2) := HBc.out.trans (hb2.mono HBc.out.size)
    clear hb2 HBc
    cases hrw : readB Fs m.field m.wh with
    | false =>
      go_wp2
      go_ret
      exact ⟨ret_bool (by unfold mendI; simp [hpl, hrw]), HB2.out⟩
    | true =>
      have g1 := FS.out.cell
      have g2 := FM.out.cell
      have gl := FS.out.lt
      have gl2 := FM.out.lt
      go_wp2_with fail
      clear g1 g2 gl gl2
      refine (readOk_any lo _ _ Fs m.field m.fr _ (HV.out.below (H0.out.trans (HB2.out.mono H0.out.size)))).mono ?_
      rintro e w3 ⟨rfl, hb3⟩
      have FM := hide (FM.out.on hb3)
      have FF := hide (FF.out.on hb3)
      have HB3 : Hid (Below w.heap.size w w3) := HB2.out.trans (hb3.mono HB2.out.size)
      clear hb3 HB2
      cases hrf : readB Fs m.field m.fr with
      | false =>
        go_wp2
        go_ret
        exact ⟨ret_bool (by unfold mendI; simp [hpl, hrw, hrf]), HB3.out⟩
      | true =>
        have g2 := FM.out.cell
        have gl2 := FM.out.lt
        cases hwe : m.wh.toList.isEmpty with
        | true =>
          cases his : m.is.toList.isEmpty with
          | false =>
            go_wp2
            go_ret
            exact ⟨ret_bool (by unfold mendI formB; simp [hpl, hrw, hrf, hwe, his]), HB3.out⟩
          | true =>
            cases hfe : m.fr.toList.isEmpty with
            | true =>
              cases hpu : m.put.toList.isEmpty with
              | true =>
                go_wp2
                go_ret
                exact ⟨ret_bool (by unfold mendI formB; simp [hpl, hrw, hrf, hwe, his, hfe, hpu]), HB3.out⟩
              | false =>
                have HEND : Hid (mendI Fs m = fitF Fs m.field m.put) := by unfold Hid mendI formB; simp [hpl, hrw, hrf, hwe, his, hfe, hpu]
                have g3 := FF.out.cell
                have gl3 := FF.out.lt
                go_wp2_with fail
                clear g2 g3 gl2 gl3
                refine (implFits_any _ _ _ _ _ _ _ _ _ _ f.words _ _ _ (HWD.out.at.below (H0.out.trans (HB3.out.mono H0.out.size))) HM.out.s4).mono ?_
                rintro e w4 ⟨rfl, hb4⟩
                have HB4 : Hid (Below w.heap.size w w4) := HB3.out.trans (hb4.mono HB3.out.size)
                clear hb4
                go_wp2
                go_ret
                exact ⟨ret_bool (HEND.out.trans HFIT.out).symm, HB4.out⟩
            | false =>
              cases hpu : m.put.toList.isEmpty with
              | true =>
                go_wp2
                go_ret
                exact ⟨ret_bool (by unfold mendI formB; simp [hpl, hrw, hrf, hwe, his, hfe, hpu]), HB3.out⟩
              | false =>
                go_wp2
                go_ret
                exact ⟨ret_bool (by unfold mendI formB; simp [hpl, hrw, hrf, hwe, his, hfe, hpu]), HB3.out⟩
        | false =>
          cases hfe : m.fr.toList.isEmpty with
          | true =>
            cases hpu : m.put.toList.isEmpty with
            | true =>
              go_wp2
              go_ret
              exact ⟨ret_bool (by unfold mendI formB; simp [hpl, hrw, hrf, hwe, hfe, hpu]), HB3.out⟩
            | false =>
              have HEND : Hid (mendI Fs m = fitF Fs m.field m.put) := by unfold Hid mendI formB; simp [hpl, hrw, hrf, hwe, hfe, hpu]
              have g3 := FF.out.cell
              have gl3 := FF.out.lt
              go_wp2_with fail
              clear g2 g3 gl2 gl3
              refine (implFits_any _ _ _ _ _ _ _ _ _ _ f.words _ _ _ (HWD.out.at.below (H0.out.trans (HB3.out.mono H0.out.size))) HM.out.s4).mono ?_
              rintro e w4 ⟨rfl, hb4⟩
              have HB4 : Hid (Below w.heap.size w w4) := HB3.out.trans (hb4.mono HB3.out.size)
              clear hb4
              go_wp2
              go_ret
              exact ⟨ret_bool (HEND.out.trans HFIT.out).symm, HB4.out⟩
          | false =>
            cases hpu : m.put.toList.isEmpty with
            | true =>
              go_wp2
              go_ret
              exact ⟨ret_bool (by unfold mendI formB; simp [hpl, hrw, hrf, hwe, hfe, hpu]), HB3.out⟩
            | false =>
              go_wp2
              go_ret
              exact ⟨ret_bool (by unfold mendI formB; simp [hpl, hrw, hrf, hwe, hfe, hpu]), HB3.out⟩
  · have g1 := FS.out.cell
    have g2 := FM.out.cell
    go_wp2
    go_ret
    exact ⟨ret_bool (by unfold mendI; simp [hpl]), HB1.out.alloc HB1.out.size _⟩
end Go.Proofs.YtjkkbkdpoebfaaaGreat
