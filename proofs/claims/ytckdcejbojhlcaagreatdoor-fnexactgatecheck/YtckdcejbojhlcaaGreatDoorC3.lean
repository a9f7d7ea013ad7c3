import Derived.Test.YtckdcejbojhlcaaGreatDoorO1
import Derived.Test.YtckdcejbojhlcaaGreatDoorS15
namespace Go.Proofs.YtckdcejbojhlcaaGreatDoor
open Go.RowKit Go.Deep

/-- what gateOkShapeOf tells: the first of the kind, where the shapes are ok -/
def okShapeOf (Ss : List Sh) (s : ByteArray) : Option Sh := if shapesB Ss = true then shOf Ss s else none
def OkShape (lo : Nat) (Ss : List Sh) (s : ByteArray) (e : Ending) (w' : World) : Prop :=
  (∃ x fv, okShapeOf Ss s = some x ∧ e = .returned (.tuple #[.agg #[.string x.kind, fv], .bool true]) ∧ FdsAt lo w' fv x.fields) ∨
  (okShapeOf Ss s = none ∧ e = .returned (.tuple #[.agg #[.string ⟨#[]⟩, .slice none 0 0], .bool false]))

set_option maxHeartbeats 400000 in
theorem shapeOf0_any (lo : Nat) (v : Value) (Ss : List Sh) (s : ByteArray) (w0 w : World) (hv : ShsAt lo w0 v Ss) (h0 : Below w0.heap.size w0 w) :
    Calls Tryz.prog 36 #[v, .string s] w fun e w' => Below w.heap.size w w' ∧ ShapeOf lo Ss s e w0 := by
  by_cases hL : Ss = []
  · subst hL
    obtain ⟨a, cap, rfl⟩ := hv.form
    clear hv
    go_enter Tryz.func36, Tryz.ntmps36
    go_wp2
    go_loop [10] (fun i => i = .int .i64 0) (fun _ => 0)
    case atStart => rfl
    case round =>
      subst hrel
      go_wp2
      refine bodyPost_ret (v := .tuple #[.agg #[.string ⟨#[]⟩, .slice none 0 0], .bool false]) (by simp [results, Tryz.results36, go_sem]) rfl ⟨?_, Or.inr ⟨rfl, rfl⟩⟩
      exact (Below.refl _ _).alloc (Nat.le_refl _) _
  · obtain ⟨b, off, cap, rfl, hm, hbw, hc⟩ := hv.full hL
    clear hv
    have H0 := hide h0
    clear h0
    unfold maxLen at hm
    have hA : ∀ (o : Obj) (wr : World), Below (w.heap.size + 1) (w.alloc o) wr → Below w.heap.size w wr := fun o wr h => ((Below.refl _ _).alloc (Nat.le_refl _) o).trans (h.mono (by omega))
    go_enter Tryz.func36, Tryz.ntmps36
    go_wp2
    go_loopw [10] (fun i wr => ∃ k : Nat, i = .int .i64 k ∧ k ≤ Ss.length ∧ Below (w.heap.size + 1) (w.alloc (.cells #[.string ⟨#[]⟩, .slice none 0 0] 47)) wr ∧ ∀ i (h : i < Ss.length), i < k → (Ss[i].kind.toList == s.toList) = false) (fun i _ => Ss.length - (intOf i).toNat)
    case atStart => exact ⟨0, rfl, by omega, Below.refl _ _, fun i _ h => by omega⟩
    case round =>
      obtain ⟨k, rfl, hk, hb, hall⟩ := hrel
      have HA := hide hall
      clear hall
      have hz : w.heap.size < wr.heap.size := by have := hb.size; simp at this; omega
      have hB : Hid (Below w.heap.size w wr) := hA _ _ hb
      have hB0 : Hid (Below w0.heap.size w0 wr) := H0.out.trans (hB.out.mono H0.out.size)
      have q0 : wr.cell? ⟨w.heap.size, 0, none⟩ = some (.string ⟨#[]⟩) := by rw [hb.cell (p := ⟨w.heap.size, _, none⟩) (by simp)]; simp
      have q1 : wr.cell? ⟨w.heap.size, 1, none⟩ = some (.slice none 0 0) := by rw [hb.cell (p := ⟨w.heap.size, _, none⟩) (by simp)]; simp
      have qf : ∀ o, wr.frozen? ⟨w.heap.size, o, none⟩ = false := fun o => by rw [hb.frozen (p := ⟨w.heap.size, _, none⟩) (by simp)]; simp
      have HBB := hide hb
      clear hb
      by_cases hlt : k < Ss.length
      · obtain ⟨_, fv, c0, c1, hst⟩ := hc k hlt
        have e0 : wr.cell? ⟨b, off + k * 2, none⟩ = some (.string Ss[k].kind) := by rw [hB0.out.cell (p := ⟨b, _, none⟩) hbw]; exact c0
        have e1 : wr.cell? ⟨b, off + k * 2 + 1, none⟩ = some fv := by rw [hB0.out.cell (p := ⟨b, _, none⟩) hbw]; exact c1
        obtain ⟨a1, cap1, rfl⟩ := hst.form
        have HST := hide hst
        clear c0 c1 hst
        by_cases he : (Ss[k].kind.toList == s.toList) = true
        · go_wp2
          have HF : Below w.heap.size w (((wr.setCell ⟨w.heap.size, 0, none⟩ (.string Ss[k].kind)).setCell ⟨w.heap.size, 1, none⟩ (.slice a1 Ss[k].fields.length cap1)).alloc (.cells #[.string Ss[k].kind, .slice a1 Ss[k].fields.length cap1] 47)) :=
            ((hB.out.setCell (Nat.le_refl _) _).setCell (Nat.le_refl _) _).alloc (by simp [World.setCell]; omega) _
          have hold : ∀ (X : World) (o : Obj) (j : Nat), w.heap.size < X.heap.size → (X.alloc o).cell? ⟨w.heap.size, j, none⟩ = X.cell? ⟨w.heap.size, j, none⟩ := fun X o j h => ((Below.refl X.heap.size X).alloc (Nat.le_refl _) o).cell (p := ⟨w.heap.size, j, none⟩) h
          have f0 : (((wr.setCell ⟨w.heap.size, 0, none⟩ (.string Ss[k].kind)).setCell ⟨w.heap.size, 1, none⟩ (.slice a1 Ss[k].fields.length cap1)).alloc (.cells #[.string Ss[k].kind, .slice a1 Ss[k].fields.length cap1] 47)).cell? ⟨w.heap.size, 0, none⟩ = some (.string Ss[k].kind) := by
            rw [hold _ _ _ (by simpa [World.setCell] using hz), cell_set_ne _ _ _ _ (by simp), cell_set_eq _ _ _ _ q0]
          have f1 : (((wr.setCell ⟨w.heap.size, 0, none⟩ (.string Ss[k].kind)).setCell ⟨w.heap.size, 1, none⟩ (.slice a1 Ss[k].fields.length cap1)).alloc (.cells #[.string Ss[k].kind, .slice a1 Ss[k].fields.length cap1] 47)).cell? ⟨w.heap.size, 1, none⟩ = some (.slice a1 Ss[k].fields.length cap1) := by
            rw [hold _ _ _ (by simpa [World.setCell] using hz), cell_set_eq _ _ _ _ (by rw [cell_set_ne _ _ _ _ (by simp)]; exact q1)]
          exact bodyPost_ret (v := .tuple #[.agg #[.string Ss[k].kind, .slice a1 Ss[k].fields.length cap1], .bool true]) (by simp [results, Tryz.results36, go_sem, f0, f1]) rfl ⟨HF, Or.inl ⟨Ss[k], _, shOf_some hlt he HA.out, rfl, HST.out⟩⟩
        · have he' : (Ss[k].kind.toList == s.toList) = false := by simpa using he
          clear he
          go_wp2
          go_roundw
          case rel => exact ⟨k + 1, by go_num, by omega, HBB.out.alloc (by omega) _, fun i h h' => by
                        by_cases e : i = k
                        · subst e; exact he'
                        · exact HA.out i h (by omega)⟩
          case measure => simp [intOf]; omega
      · go_wp2
        refine bodyPost_ret (v := .tuple #[.agg #[.string ⟨#[]⟩, .slice none 0 0], .bool false]) (by simp [results, Tryz.results36, go_sem, q0, q1]) rfl ⟨?_, Or.inr ⟨shOf_none fun i h => HA.out i h (by omega), rfl⟩⟩
        exact (hB.out.setCell (Nat.le_refl _) _).setCell (Nat.le_refl _) _

set_option maxHeartbeats 1000000 in
theorem okShapeOf_any (lo : Nat) (v : Value) (Ss : List Sh) (s : ByteArray) (w : World) (hv : ShsAt lo w v Ss) :
    Calls Tryz.prog 21 #[v, .string s] w fun e w' => Below w.heap.size w w' ∧ OkShape lo Ss s e w := by
  have HV := hide hv
  obtain ⟨a, cap, rfl⟩ := hv.form
  clear hv
  have HW : ∀ o, Hid (Below w.heap.size w (w.alloc o)) := fun o => (Below.refl _ _).alloc (Nat.le_refl _) _
  go_enter Tryz.func21, Tryz.ntmps21
  go_wp2_with fail
  refine (implShapes_any lo _ Ss _ (HV.out.below (HW _).out)).mono ?_
  rintro e w1 ⟨rfl, hb1⟩
  have hz : w.heap.size < w1.heap.size := by have := hb1.size; simp at this; omega
  have HB1 : Hid (Below w.heap.size w w1) := (HW _).out.trans (hb1.mono (by simp))
  have HC1 : Hid (Below (w.heap.size + 1) (w.alloc (.cells #[.string ⟨#[]⟩, .slice none 0 0] 47)) w1) := by have := hb1; simp at this; exact this
  have hbx := fun i => box_cell w w1 #[.string ⟨#[]⟩, .slice none 0 0] 47 HC1.out i
  have hfz : ∀ o, w1.frozen? ⟨w.heap.size, o, none⟩ = false := fun o => by rw [HC1.out.frozen (p := ⟨w.heap.size, o, none⟩) (by simp)]; simp
  clear hb1
  cases hsb : shapesB Ss with
  | false =>
    have HN : Hid (okShapeOf Ss s = none) := by unfold Hid okShapeOf; rw [hsb]; rfl
    go_wp2
    refine bodyPost_ret (v := .tuple #[.agg #[.string ⟨#[]⟩, .slice none 0 0], .bool false]) (by simp [results, Tryz.results21, go_sem, hbx]) rfl ⟨?_, Or.inr ⟨HN.out, rfl⟩⟩
    exact (HB1.out.setCell (Nat.le_refl _) _).setCell (Nat.le_refl _) _
  | true =>
    have HE : Hid (okShapeOf Ss s = shOf Ss s) := by unfold Hid okShapeOf; rw [hsb]; rfl
    go_wp2_with fail
    refine (shapeOf0_any lo _ Ss s w _ HV.out HB1.out).mono ?_
    rintro e w2 ⟨hb2, hsh⟩
    have HB2 : Hid (Below w.heap.size w w2) := HB1.out.trans (hb2.mono HB1.out.size)
    have HC2 : Hid (Below (w.heap.size + 1) (w.alloc (.cells #[.string ⟨#[]⟩, .slice none 0 0] 47)) w2) := HC1.out.trans (hb2.mono hz)
    have hbx2 := fun i => box_cell w w2 #[.string ⟨#[]⟩, .slice none 0 0] 47 HC2.out i
    have hfz2 : ∀ o, w2.frozen? ⟨w.heap.size, o, none⟩ = false := fun o => by rw [HC2.out.frozen (p := ⟨w.heap.size, o, none⟩) (by simp)]; simp
    have hz2 : w.heap.size < w2.heap.size := Nat.lt_of_lt_of_le hz hb2.size
    clear hb2 hbx hfz
    rcases hsh with ⟨x, fv, hx, rfl, hfd⟩ | ⟨hx, rfl⟩
    · obtain ⟨fa, fcap, rfl⟩ := hfd.form
      have HFD := hide hfd
      have HX : Hid (okShapeOf Ss s = some x) := HE.out.trans hx
      clear hfd hx
      go_wp2
      have f0 : ((w2.setCell ⟨w.heap.size, 0, none⟩ (.string x.kind)).setCell ⟨w.heap.size, 1, none⟩ (.slice fa x.fields.length fcap)).cell? ⟨w.heap.size, 0, none⟩ = some (.string x.kind) := by
        rw [cell_set_ne _ _ _ _ (by simp), cell_set_eq _ _ _ _ (hbx2 0)]
      have f1 : ((w2.setCell ⟨w.heap.size, 0, none⟩ (.string x.kind)).setCell ⟨w.heap.size, 1, none⟩ (.slice fa x.fields.length fcap)).cell? ⟨w.heap.size, 1, none⟩ = some (.slice fa x.fields.length fcap) := by
        rw [cell_set_eq _ _ _ _ (by rw [cell_set_ne _ _ _ _ (by simp)]; exact hbx2 1)]
      exact bodyPost_ret (v := .tuple #[.agg #[.string x.kind, .slice fa x.fields.length fcap], .bool true]) (by simp [results, Tryz.results21, go_sem, f0, f1]) rfl ⟨(HB2.out.setCell (Nat.le_refl _) _).setCell (Nat.le_refl _) _, Or.inl ⟨x, _, HX.out, rfl, HFD.out⟩⟩
    · have HX : Hid (okShapeOf Ss s = none) := HE.out.trans hx
      clear hx
      go_wp2
      refine bodyPost_ret (v := .tuple #[.agg #[.string ⟨#[]⟩, .slice none 0 0], .bool false]) (by simp [results, Tryz.results21, go_sem, hbx2]) rfl ⟨?_, Or.inr ⟨HX.out, rfl⟩⟩
      exact (HB2.out.setCell (Nat.le_refl _) _).setCell (Nat.le_refl _) _
end Go.Proofs.YtckdcejbojhlcaaGreatDoor
