import Derived.Test.YtjkkbkdpoebfaaaGreatV32
import Derived.Test.YtjkkbkdpoebfaaaGreatV33
namespace Go.Proofs.YtjkkbkdpoebfaaaGreat
open Go.RowKit Go.Deep

theorem mends_bad {Ss : List Sh} {Ms : List Md} (h : shapesB Ss = false) : mendsB Ss Ms = false := by unfold mendsB; rw [h]; rfl
theorem mends_many {Ss : List Sh} {Ms : List Md} (h : 12 < Ms.length) : mendsB Ss Ms = false := by
  unfold mendsB
  rw [show decide (Ms.length ≤ 12) = false from decide_eq_false (by omega)]; simp
theorem mends_one {Ss : List Sh} {Ms : List Md} {k : Nat} (hk : k < Ms.length) (h : mendB Ss Ms[k] = false) : mendsB Ss Ms = false := by
  unfold mendsB
  rw [show Ms.all (mendB Ss) = false from by rw [List.all_eq_false]; exact ⟨Ms[k], List.getElem_mem hk, by simp [h]⟩]; simp
theorem mends_row {Ss : List Sh} {Ms : List Md} {k : Nat} (hk : k < Ss.length) (h : shapeRowB Ms Ss[k] = false) : mendsB Ss Ms = false := by
  unfold mendsB
  rw [show Ss.all (shapeRowB Ms) = false from by rw [List.all_eq_false]; exact ⟨Ss[k], List.getElem_mem hk, by simp [h]⟩]; simp
theorem mends_all {Ss : List Sh} {Ms : List Md} (h1 : shapesB Ss = true) (h2 : Ms.length ≤ 12) (h3 : ∀ i (h : i < Ms.length), mendB Ss Ms[i] = true) (h4 : ∀ i (h : i < Ss.length), shapeRowB Ms Ss[i] = true) : mendsB Ss Ms = true := by
  unfold mendsB
  simp only [Bool.and_eq_true, List.all_eq_true, decide_eq_true_eq]
  refine ⟨⟨⟨h1, h2⟩, fun m hm => ?_⟩, fun x hx => ?_⟩
  · obtain ⟨i, hi, rfl⟩ := List.getElem_of_mem hm; exact h3 i hi
  · obtain ⟨i, hi, rfl⟩ := List.getElem_of_mem hx; exact h4 i hi

set_option maxRecDepth 20000 in
set_option maxHeartbeats 4000000 in
theorem specMends_any (lo lm : Nat) (sv mv : Value) (Ss : List Sh) (Ms : List Md) (w : World) (hS : ShsAt lo w sv Ss) (hM : MdsAt lm w mv Ms) :
    Calls Tryz.prog 20 #[sv, mv] w fun e w' => e = .returned (.bool (mendsB Ss Ms)) ∧ Below w.heap.size w w' := by
  have HS := hide hS
  have HM := hide hM
  obtain ⟨a1, cap1, rfl⟩ := hS.form
  obtain ⟨a2, cap2, rfl⟩ := hM.form
  clear hS hM
  go_enter Tryz.func20, Tryz.ntmps20
  go_wp2_with fail
  refine (specShapes_any lo _ Ss _ HS.out).mono ?_
  rintro e w1 ⟨rfl, hb1⟩
  have HB1 := hide hb1
  clear hb1
  have hml : (Ms.length : Int) ≤ 9223372036854775807 := by
    rcases HM.out with ⟨_, _, _, h⟩ | ⟨_, _, _, _, _, h, _⟩
    · rw [h]; simp
    · unfold maxLen at h; omega
  have hsl : (Ss.length : Int) ≤ 9223372036854775807 := by
    rcases HS.out with ⟨_, _, _, h⟩ | ⟨_, _, _, _, _, h, _⟩
    · rw [h]; simp
    · unfold maxLen at h; omega
  cases hsb : shapesB Ss with
  | false =>
    have HQ : Hid (mendsB Ss Ms = false) := mends_bad hsb
    go_wp2
    go_ret
    exact ⟨ret_bool HQ.out.symm, HB1.out⟩
  | true =>
    by_cases h12 : (Ms.length : Int) ≤ 12
    · have HSB := hide hsb
      clear hsb
      go_wp2
      go_loopw [5] (fun i wr => ∃ k : Nat, i = .int .i64 k ∧ k ≤ Ms.length ∧ Below w.heap.size w wr ∧ ∀ i (h : i < Ms.length), i < k → mendB Ss Ms[i] = true) (fun i _ => Ms.length - (intOf i).toNat)
      case atStart => exact ⟨0, rfl, by omega, HB1.out, fun i _ h => by omega⟩
      case round =>
        obtain ⟨k, rfl, hk, hb, hall⟩ := hrel
        have HA := hide hall
        have HB := hide hb
        clear hall hb
        by_cases hlt : k < Ms.length
        · obtain ⟨b, off, rfl, hbw, hc⟩ := HM.out.full' (by omega)
          obtain ⟨hsz, hcell⟩ := hc k hlt
          obtain ⟨c0, c1, c2, c3, c4, c5⟩ := hcell.below HB.out hbw
          clear hcell hc
          go_wp2_with fail
          refine (l3MendOk_any lo _ Ss Ms[k] _ (HS.out.below HB.out) hsz).mono ?_
          rintro e w2 ⟨rfl, hb2⟩
          have HB2 : Hid (Below w.heap.size w w2) := HB.out.trans (hb2.mono HB.out.size)
          clear hb2 c0 c1 c2 c3 c4 c5
          cases hmb : mendB Ss Ms[k] with
          | false =>
            have HQ : Hid (mendsB Ss Ms = false) := mends_one hlt hmb
            go_wp2
            go_ret
            exact ⟨ret_bool HQ.out.symm, HB2.out⟩
          | true =>
            go_wp2
            go_roundw
            case rel => exact ⟨k + 1, by go_num, by omega, HB2.out, fun i h h' => by
                          by_cases e : i = k
                          · subst e; exact hmb
                          · exact HA.out i h (by omega)⟩
            case measure => simp [intOf]; omega
        · have HAll : Hid (∀ i (h : i < Ms.length), mendB Ss Ms[i] = true) := fun i h => HA.out i h (by omega)
          have HBx : Hid (Below w.heap.size w wr) := HB.out
          clear HA HB HB1
          go_wp2
          clear hlt hk
          rename_i wx _ _ _ _ _ _
          go_loopw [6] (fun i wr => ∃ k : Nat, i = .int .i64 k ∧ k ≤ Ss.length ∧ Below w.heap.size w wr ∧ ∀ i (h : i < Ss.length), i < k → shapeRowB Ms Ss[i] = true) (fun i _ => Ss.length - (intOf i).toNat)
          case atStart => exact ⟨0, rfl, by omega, HBx.out, fun i _ h => by omega⟩
          case round =>
            clear HBx
            obtain ⟨j, rfl, hj, hb, hall⟩ := hrel
            have HA := hide hall
            have HB := hide hb
            clear hall hb
            by_cases hlt : j < Ss.length
            · obtain ⟨b, off, rfl, hbw, hc⟩ := HS.out.full' (by omega)
              obtain ⟨hsz, fv, d0, d1, hst⟩ := hc j hlt
              have c0 : wr.cell? ⟨b, off + j * 2, none⟩ = some (.string Ss[j].kind) := by rw [HB.out.cell (p := ⟨b, _, none⟩) hbw]; exact d0
              have c1 : wr.cell? ⟨b, off + j * 2 + 1, none⟩ = some fv := by rw [HB.out.cell (p := ⟨b, _, none⟩) hbw]; exact d1
              obtain ⟨fa, fcap, rfl⟩ := hst.form
              have HST := hide (hst.below HB.out)
              have hbr : b < wr.heap.size := Nat.lt_of_lt_of_le hbw HB.out.size
              have h6 : Ss[j].fields.length ≤ 6 := fields_six (shapes_fields HSB.out (List.getElem_mem hlt))
              clear d0 d1 hst hc
              go_wp2
              go_region_with (go_at_call 36
                              refine (l3Row_any lo lm _ _ Ss[j] Ms _ (HST.out.below ((Below.refl _ _).drew)) (HM.out.below (HB.out.drew)) (by omega)).mono ?_
                              rintro e w2 ⟨v2, R, rfl, hb2, ho2, hro⟩
                              obtain ⟨ra, rcap, rfl⟩ := ho2.form
                              have HRO := hide hro
                              have HB2 : Hid (Below w.heap.size w w2) := (HB.out.drew).trans (hb2.mono HB.out.size)
                              have c1' : w2.cell? ⟨b, off + j * 2 + 1, none⟩ = some (.slice fa Ss[j].fields.length fcap) := (hb2.cell (p := ⟨b, off + j * 2 + 1, none⟩) hbr).trans c1
                              clear hb2 ho2 hro)
              all_goals
                by_cases hq : (R.length : Int) = (Ss[j].fields.length : Int)
                · have HSR : Hid (shapeRowB Ms Ss[j] = true) := HRO.out.2.2.1 (by omega)
                  go_wp2
                  go_roundw
                  case rel => exact ⟨j + 1, by go_num, by omega, HB2.out, fun i h h' => by
                                by_cases e : i = j
                                · subst e; exact HSR.out
                                · exact HA.out i h (by omega)⟩
                  case measure => simp [intOf]; omega
                · have HSR : Hid (shapeRowB Ms Ss[j] = false) := by
                    unfold Hid
                    cases h : shapeRowB Ms Ss[j] with
                    | false => rfl
                    | true => exact absurd (HRO.out.2.2.2 h) (by omega)
                  have HQ : Hid (mendsB Ss Ms = false) := mends_row hlt HSR.out
                  go_wp2
                  go_ret
                  exact ⟨ret_bool HQ.out.symm, HB2.out⟩
            · have HQ : Hid (mendsB Ss Ms = true) := mends_all HSB.out (by omega) HAll.out (fun i h => HA.out i h (by omega))
              go_wp2
              go_ret
              exact ⟨ret_bool HQ.out.symm, HB.out⟩
    · have HQ : Hid (mendsB Ss Ms = false) := mends_many (by omega)
      go_wp2
      go_ret
      exact ⟨ret_bool HQ.out.symm, HB1.out⟩
end Go.Proofs.YtjkkbkdpoebfaaaGreat
namespace Go.Proofs.YtjkkbkdpoebfaaaGreat
open Go.RowKit Go.Deep

section
variable (nm tt df we : ByteArray) (kd le mo ro : Int) (mu fx : Bool) (wv : Value) (w : World)
set_option maxHeartbeats 400000 in
theorem closP_any (s : ByteArray) (B : Nat) (hB : B < w.heap.size) (hs : w.cell? ⟨B, 0, none⟩ = some (.string s)) :
    Calls Tryz.prog 80 #[.agg #[.string nm, .int .i64 kd, .int .i64 le, .int .i64 mo, wv, .string tt, .int .i64 ro, .bool mu, .bool fx, .string df, .string we], .pointer (some ⟨B, 0, none⟩)] w
      fun e w' => e = .returned (.bool (nm.toList == s.toList)) ∧ Below w.heap.size w w' := by
  go_enter Tryz.func80, Tryz.ntmps80
  go_wp2
  go_ret
  exact ⟨rfl, (Below.refl _ _).alloc (Nat.le_refl _) _⟩
end

set_option maxHeartbeats 1000000 in
theorem indexFuncP_any (lo : Nat) (v : Value) (Fs : List Fd) (s : ByteArray) (B : Nat) (w : World) (hv : FdsAt lo w v Fs) (hB : B < w.heap.size) (hs : w.cell? ⟨B, 0, none⟩ = some (.string s)) :
    Calls Tryz.prog 79 #[v, .func (.func 80) #[] #[.pointer (some ⟨B, 0, none⟩)]] w fun e w' => e = .returned (.int .i64 (placeI Fs s)) ∧ Below w.heap.size w w' := by
  by_cases hL : Fs = []
  · subst hL
    obtain ⟨a, cap, rfl⟩ := nil_form hv
    clear hv
    go_enter Tryz.func79, Tryz.ntmps79
    go_wp2
    go_loop [8] (fun i => i = .int .i64 0) (fun _ => 0)
    case atStart => rfl
    case round =>
      subst hrel
      go_wp2
      go_ret
      exact ⟨rfl, Below.refl _ _⟩
  · obtain ⟨b, off, cap, rfl, hm, hbw, _, hc⟩ := hv.full hL
    clear hv
    unfold maxLen at hm
    go_enter Tryz.func79, Tryz.ntmps79
    go_wp2
    go_loopw [8] (fun i wr => ∃ k : Nat, i = .int .i64 k ∧ k ≤ Fs.length ∧ Below w.heap.size w wr ∧ ∀ j (hj : j < Fs.length), j < k → (Fs[j].nm.toList == s.toList) = false) (fun i _ => Fs.length - (intOf i).toNat)
    case atStart => exact ⟨0, rfl, by omega, Below.refl _ _, fun j _ h => by omega⟩
    case round =>
      obtain ⟨k, rfl, hk, hb, hall⟩ := hrel
      have HA := hide hall
      have HB := hide hb
      clear hall hb
      by_cases hlt : k < Fs.length
      · obtain ⟨_, wv, hcell, _⟩ := hc k hlt
        obtain ⟨c0, c1, c2, c3, c4, c5, c6, c7, c8, c9, c10⟩ := hcell.below HB.out hbw
        clear hcell
        go_wp2_with fail
        refine (closP_any _ _ _ _ _ _ _ _ _ _ _ _ s B (Nat.lt_of_lt_of_le hB HB.out.size) (by rw [HB.out.cell (p := ⟨B, 0, none⟩) hB]; exact hs)).mono ?_
        rintro e w1 ⟨rfl, hb1⟩
        have HB1 : Hid (Below w.heap.size w w1) := HB.out.trans (hb1.mono HB.out.size)
        clear hb1 c0 c1 c2 c3 c4 c5 c6 c7 c8 c9 c10
        cases he : (Fs[k].nm.toList == s.toList) with
        | true =>
          go_wp2
          go_ret
          exact ⟨by rw [placeI_yes hlt he HA.out]; rfl, HB1.out⟩
        | false =>
          go_wp2
          go_roundw
          case rel => exact ⟨k + 1, by go_num, by omega, HB1.out, fun j hj h => by
                        by_cases e : j = k
                        · subst e; exact he
                        · exact HA.out j hj (by omega)⟩
          case measure => simp [intOf]; omega
      · go_wp2
        go_ret
        exact ⟨by rw [placeI_no fun j hj => HA.out j hj (by omega)]; rfl, HB.out⟩

set_option maxHeartbeats 400000 in
theorem placeOf_any (lo : Nat) (kind : ByteArray) (v : Value) (Fs : List Fd) (s : ByteArray) (w : World) (hv : FdsAt lo w v Fs) :
    Calls Tryz.prog 45 #[.agg #[.string kind, v], .string s] w fun e w' => e = .returned (.int .i64 (placeI Fs s)) ∧ Below w.heap.size w w' := by
  have HV := hide hv
  obtain ⟨a, cap, rfl⟩ := hv.form
  clear hv
  have HW : ∀ o o', Hid (Below w.heap.size w ((w.alloc o).alloc o')) := fun o o' => ((Below.refl _ _).alloc (Nat.le_refl _) _).alloc (by simp) _
  go_enter Tryz.func45, Tryz.ntmps45
  go_wp2_with fail
  refine (indexFuncP_any lo _ Fs s _ _ (HV.out.below (HW _ _).out) (by simp) (by simp)).mono ?_
  rintro e w1 ⟨rfl, hb⟩
  have HB : Hid (Below w.heap.size w w1) := (HW _ _).out.trans (hb.mono (by simp; omega))
  clear hb
  go_wp2
  go_ret
  exact ⟨rfl, HB.out⟩

/-- what gateMendable tells -/
def MendableR (lo : Nat) (Fs : List Fd) (s : ByteArray) (e : Ending) (w : World) : Prop :=
  (∃ (f : Fd) (wv : Value), Fs[plOf Fs s]? = some f ∧ plainB Fs s = true ∧ e = .returned (.tuple #[.agg #[.string f.nm, .int .i64 f.kd, .int .i64 f.le, .int .i64 f.mo, wv, .string f.to, .int .i64 f.ro, .bool f.mu, .bool f.fx, .string f.df, .string f.we], .bool true]) ∧ StrsIn lo w wv f.words) ∨
  (plainB Fs s = false ∧ e = .returned (.tuple #[.agg #[.string ⟨#[]⟩, .int .i64 0, .int .i64 0, .int .i64 0, .slice none 0 0, .string ⟨#[]⟩, .int .i64 0, .bool false, .bool false, .string ⟨#[]⟩, .string ⟨#[]⟩], .bool false]))

set_option maxHeartbeats 2000000 in
theorem mendable_any (lo : Nat) (kind : ByteArray) (v : Value) (Fs : List Fd) (s : ByteArray) (w0 w : World) (hv : FdsAt lo w0 v Fs) (h0 : Below w0.heap.size w0 w) :
    Calls Tryz.prog 72 #[.agg #[.string kind, v], .string s] w fun e w' => Below w.heap.size w w' ∧ MendableR lo Fs s e w0 := by
  have HV := hide hv
  have H0 := hide h0
  obtain ⟨a, cap, rfl⟩ := hv.form
  clear hv h0
  go_enter Tryz.func72, Tryz.ntmps72
  go_wp2_with fail
  generalize hWa : w.alloc _ = Wa
  have hza : Wa.heap.size = w.heap.size + 1 := by rw [← hWa]; simp
  have HBa : Hid (Below w.heap.size w Wa) := by rw [← hWa]; exact one_al _ _
  have FS : Hid (Box Wa w.heap.size #[.string kind, .slice a Fs.length cap]) := by rw [← hWa]; exact Box.new _ _ _ _ rfl
  clear hWa
  generalize hWb : Wa.alloc _ = Wb
  have hbb : Below Wa.heap.size Wa Wb := by rw [← hWb]; exact one_al _ _
  have HBb : Hid (Below w.heap.size w Wb) := HBa.out.trans (hbb.mono (by omega))
  have FS := hide (FS.out.on hbb)
  have FR : Hid (Box Wb (w.heap.size + 1) #[.string ⟨#[]⟩, .int .i64 0, .int .i64 0, .int .i64 0, .slice none 0 0, .string ⟨#[]⟩, .int .i64 0, .bool false, .bool false, .string ⟨#[]⟩, .string ⟨#[]⟩]) := by rw [← hWb]; exact Box.new _ _ _ _ hza
  clear hWb hbb HBa hza
  refine (placeOf_any lo _ _ Fs s _ (HV.out.below (H0.out.trans (HBb.out.mono H0.out.size)))).mono ?_
  rintro e w1 ⟨rfl, hb1⟩
  have FS := hide (FS.out.on hb1)
  have FR := hide (FR.out.on hb1)
  have HB1 : Hid (Below w.heap.size w w1) := HBb.out.trans (hb1.mono HBb.out.size)
  clear hb1 HBb
  have g1 := FS.out.cell
  have gl := FS.out.lt
  have r := FR.out.cell
  have rf := FR.out.free
  have rl := FR.out.lt
  have r0 : w1.cell? ⟨w.heap.size + 1, 0, none⟩ = some (.string ⟨#[]⟩) := r 0
  have r1 : w1.cell? ⟨w.heap.size + 1, 1, none⟩ = some (.int .i64 0) := r 1
  have r2 : w1.cell? ⟨w.heap.size + 1, 2, none⟩ = some (.int .i64 0) := r 2
  have r3 : w1.cell? ⟨w.heap.size + 1, 3, none⟩ = some (.int .i64 0) := r 3
  have r4 : w1.cell? ⟨w.heap.size + 1, 4, none⟩ = some (.slice none 0 0) := r 4
  have r5 : w1.cell? ⟨w.heap.size + 1, 5, none⟩ = some (.string ⟨#[]⟩) := r 5
  have r6 : w1.cell? ⟨w.heap.size + 1, 6, none⟩ = some (.int .i64 0) := r 6
  have r7 : w1.cell? ⟨w.heap.size + 1, 7, none⟩ = some (.bool false) := r 7
  have r8 : w1.cell? ⟨w.heap.size + 1, 8, none⟩ = some (.bool false) := r 8
  have r9 : w1.cell? ⟨w.heap.size + 1, 9, none⟩ = some (.string ⟨#[]⟩) := r 9
  have r10 : w1.cell? ⟨w.heap.size + 1, 10, none⟩ = some (.string ⟨#[]⟩) := r 10
  have HST : ∀ (u0 u1 u2 u3 u4 u5 u6 u7 u8 u9 u10 : Value), Hid (Below w.heap.size w (((((((((((w1.setCell ⟨w.heap.size + 1, 0, none⟩ u0).setCell ⟨w.heap.size + 1, 1, none⟩ u1).setCell ⟨w.heap.size + 1, 2, none⟩ u2).setCell ⟨w.heap.size + 1, 3, none⟩ u3).setCell ⟨w.heap.size + 1, 4, none⟩ u4).setCell ⟨w.heap.size + 1, 5, none⟩ u5).setCell ⟨w.heap.size + 1, 6, none⟩ u6).setCell ⟨w.heap.size + 1, 7, none⟩ u7).setCell ⟨w.heap.size + 1, 8, none⟩ u8).setCell ⟨w.heap.size + 1, 9, none⟩ u9).setCell ⟨w.heap.size + 1, 10, none⟩ u10)) := fun u0 u1 u2 u3 u4 u5 u6 u7 u8 u9 u10 => by
    have q : ∀ (i : Nat), w.heap.size ≤ (⟨w.heap.size + 1, i, none⟩ : Addr).block := fun i => Nat.le_succ _
    exact (((((((((((HB1.out.setCell (q 0) _).setCell (q 1) _).setCell (q 2) _).setCell (q 3) _).setCell (q 4) _).setCell (q 5) _).setCell (q 6) _).setCell (q 7) _).setCell (q 8) _).setCell (q 9) _).setCell (q 10) _)
  clear r
  by_cases hp : plOf Fs s < Fs.length
  · rw [placeI_lt hp]
    obtain ⟨b, off, rfl, hbw0, hc⟩ := HV.out.full' (by omega)
    have hbw : b < w.heap.size := Nat.lt_of_lt_of_le hbw0 H0.out.size
    obtain ⟨_, wv, hcell, hwd⟩ := hc _ hp
    have HWD := hide hwd
    obtain ⟨wa, wn, wcap, rfl⟩ := hwd.form
    obtain ⟨c0, c1, c2, c3, c4, c5, c6, c7, c8, c9, c10⟩ := hcell.below (H0.out.trans (HB1.out.mono H0.out.size)) hbw0
    have HQ : Hid (plainB Fs s = !(Fs[plOf Fs s].kd == 4)) := plain_at hp
    have HFF : Hid (Fs[plOf Fs s]? = some Fs[plOf Fs s]) := List.getElem?_eq_getElem hp
    have hpm : (Fs.length : Int) ≤ 9223372036854775807 := by
      rcases HV.out with ⟨_, _, h, _⟩ | ⟨_, _, _, _, _, h, _⟩
      · injection h; omega
      · unfold maxLen at h; omega
    clear hc hwd hcell
    generalize hpp : plOf Fs s = p at *
    cases hk : (Fs[p].kd == 4) with
    | true =>
      have HN : Hid (plainB Fs s = false) := by unfold Hid; rw [HQ.out, hk]; rfl
      have e4 : Fs[p].kd = 4 := by simpa using hk
      rw [e4] at c1
      clear hk
      go_wp2
      refine bodyPost_ret (v := .tuple #[.agg #[.string ⟨#[]⟩, .int .i64 0, .int .i64 0, .int .i64 0, .slice none 0 0, .string ⟨#[]⟩, .int .i64 0, .bool false, .bool false, .string ⟨#[]⟩, .string ⟨#[]⟩], .bool false]) (by simp [results, Tryz.results72, go_sem, r0, r1, r2, r3, r4, r5, r6, r7, r8, r9, r10]) rfl ⟨?_, Or.inr ⟨HN.out, rfl⟩⟩
      exact (HST _ _ _ _ _ _ _ _ _ _ _).out
    | false =>
      have HN : Hid (plainB Fs s = true) := by unfold Hid; rw [HQ.out, hk]; rfl
      have e4 : ¬ Fs[p].kd = 4 := by simpa using hk
      go_wp2
      refine bodyPost_ret (v := .tuple #[.agg #[.string Fs[p].nm, .int .i64 Fs[p].kd, .int .i64 Fs[p].le, .int .i64 Fs[p].mo, (.slice wa wn wcap), .string Fs[p].to, .int .i64 Fs[p].ro, .bool Fs[p].mu, .bool Fs[p].fx, .string Fs[p].df, .string Fs[p].we], .bool true]) (by simp [results, Tryz.results72, go_sem, r0, r1, r2, r3, r4, r5, r6, r7, r8, r9, r10]) rfl ⟨?_, Or.inl ⟨Fs[p], _, by rw [hpp]; exact HFF.out, HN.out, rfl, HWD.out⟩⟩
      exact (HST _ _ _ _ _ _ _ _ _ _ _).out
  · rw [placeI_ge hp]
    have HN : Hid (plainB Fs s = false) := plain_no hp
    go_wp2
    refine bodyPost_ret (v := .tuple #[.agg #[.string ⟨#[]⟩, .int .i64 0, .int .i64 0, .int .i64 0, .slice none 0 0, .string ⟨#[]⟩, .int .i64 0, .bool false, .bool false, .string ⟨#[]⟩, .string ⟨#[]⟩], .bool false]) (by simp [results, Tryz.results72, go_sem, r0, r1, r2, r3, r4, r5, r6, r7, r8, r9, r10]) rfl ⟨?_, Or.inr ⟨HN.out, rfl⟩⟩
    exact (HST _ _ _ _ _ _ _ _ _ _ _).out
end Go.Proofs.YtjkkbkdpoebfaaaGreat
