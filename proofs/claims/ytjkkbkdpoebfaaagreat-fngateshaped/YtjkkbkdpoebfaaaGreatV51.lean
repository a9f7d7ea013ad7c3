import Derived.Test.YtjkkbkdpoebfaaaGreatV45
namespace Go.Proofs.YtjkkbkdpoebfaaaGreat
open Go.RowKit Go.Deep

set_option maxHeartbeats 1000000 in
theorem okShapeOf_any (lo : Nat) (v : Value) (Ss : List Sh) (s : ByteArray) (w : World) (hv : ShsAt lo w v Ss) :
    Calls Tryz.prog 26 #[v, .string s] w fun e w' => Below w.heap.size w w' ∧ OkShape lo Ss s e w := by
  have HV := hide hv
  obtain ⟨a, cap, rfl⟩ := hv.form
  clear hv
  have HW : ∀ o, Hid (Below w.heap.size w (w.alloc o)) := fun o => (Below.refl _ _).alloc (Nat.le_refl _) _
  go_enter Tryz.func26, Tryz.ntmps26
  go_wp2_with fail
  refine (implShapes_any lo _ Ss _ (HV.out.below (HW _).out)).mono ?_
  rintro e w1 ⟨rfl, hb1⟩
  have hz : w.heap.size < w1.heap.size := by have := hb1.size; simp at this; omega
  have HB1 : Hid (Below w.heap.size w w1) := (HW _).out.trans (hb1.mono (by simp))
  have HC1 : Hid (Below (w.heap.size + 1) (w.alloc (.cells #[.string ⟨#[]⟩, .slice none 0 0] 45)) w1) := by have := hb1; simp at this; exact this
  have hbx := fun i => box_cell w w1 #[.string ⟨#[]⟩, .slice none 0 0] 45 HC1.out i
  have hfz : ∀ o, w1.frozen? ⟨w.heap.size, o, none⟩ = false := fun o => by rw [HC1.out.frozen (p := ⟨w.heap.size, o, none⟩) (by simp)]; simp
  clear hb1
  cases hsb : shapesB Ss with
  | false =>
    have HN : Hid (okShapeOf Ss s = none) := by unfold Hid okShapeOf; rw [hsb]; rfl
    go_wp2
    refine bodyPost_ret (v := .tuple #[.agg #[.string ⟨#[]⟩, .slice none 0 0], .bool false]) (by simp [results, Tryz.results26, go_sem, hbx]) rfl ⟨?_, Or.inr ⟨HN.out, rfl⟩⟩
    exact (HB1.out.setCell (Nat.le_refl _) _).setCell (Nat.le_refl _) _
  | true =>
    have HE : Hid (okShapeOf Ss s = shOf Ss s) := by unfold Hid okShapeOf; rw [hsb]; rfl
    go_wp2_with fail
    refine (shapeOf0_any lo _ Ss s w _ HV.out HB1.out).mono ?_
    rintro e w2 ⟨hb2, hsh⟩
    have HB2 : Hid (Below w.heap.size w w2) := HB1.out.trans (hb2.mono HB1.out.size)
    have HC2 : Hid (Below (w.heap.size + 1) (w.alloc (.cells #[.string ⟨#[]⟩, .slice none 0 0] 45)) w2) := HC1.out.trans (hb2.mono hz)
    have hbx2 := fun i => box_cell w w2 #[.string ⟨#[]⟩, .slice none 0 0] 45 HC2.out i
    have hfz2 : ∀ o, w2.frozen? ⟨w.heap.size, o, none⟩ = false := fun o => by rw [HC2.out.frozen (p := ⟨w.heap.size, o, none⟩) (by simp)]; simp
    have hz2 : w.heap.size < w2.heap.size := Nat.lt_of_lt_of_le hz hb2.size
    clear hb2 hbx hfz
    rcases hsh with ⟨x, fv, hx, rfl, hfd⟩ | ⟨hx, rfl⟩
    · obtain ⟨fa, fcap, rfl⟩ := hfd.form
      have HFD := hide hfd
      have HX : Hid (okShapeOf Ss s = some x) := HE.out.trans hx
      clear hfd hx
      go_wp2
      have f0 : ((w2.setCell ⟨w.heap.size, 0, none⟩ (.string x.kind)).setCell ⟨w.heap.size, 1, none⟩ (.slice fa x.fields.length fcap)).cell? ⟨w.heap.size, 0, none⟩ = some (.string x.kind) := by
        rw [cell_set_ne _ _ _ _ (by simp), cell_set_eq _ _ _ _ (hbx2 0)]
      have f1 : ((w2.setCell ⟨w.heap.size, 0, none⟩ (.string x.kind)).setCell ⟨w.heap.size, 1, none⟩ (.slice fa x.fields.length fcap)).cell? ⟨w.heap.size, 1, none⟩ = some (.slice fa x.fields.length fcap) := by
        rw [cell_set_eq _ _ _ _ (by rw [cell_set_ne _ _ _ _ (by simp)]; exact hbx2 1)]
      exact bodyPost_ret (v := .tuple #[.agg #[.string x.kind, .slice fa x.fields.length fcap], .bool true]) (by simp [results, Tryz.results26, go_sem, f0, f1]) rfl ⟨(HB2.out.setCell (Nat.le_refl _) _).setCell (Nat.le_refl _) _, Or.inl ⟨x, _, HX.out, rfl, HFD.out⟩⟩
    · have HX : Hid (okShapeOf Ss s = none) := HE.out.trans hx
      clear hx
      go_wp2
      refine bodyPost_ret (v := .tuple #[.agg #[.string ⟨#[]⟩, .slice none 0 0], .bool false]) (by simp [results, Tryz.results26, go_sem, hbx2]) rfl ⟨?_, Or.inr ⟨HX.out, rfl⟩⟩
      exact (HB2.out.setCell (Nat.le_refl _) _).setCell (Nat.le_refl _) _

section
variable (kind nm team : ByteArray) (vv hv sv : Value) (en : Bool) (ver : Int) (V Ho : List ByteArray) (Ss : List Sh) (w : World) (lo : Nat)
set_option maxRecDepth 20000 in
set_option maxHeartbeats 2000000 in
theorem implFill_any (hS : ShsAt lo w sv Ss) (hV : StrsAt w vv V) (hH : StrsAt w hv Ho) (n1 : V.length ≤ 1048576) (n2 : Ho.length ≤ 1048576) :
    Calls Tryz.prog 10 #[sv, .agg #[.string kind, .string nm, .string team, vv, .bool en, hv, .int .i64 ver]] w
      fun e w' => ∃ v' h', e = .returned (.agg #[.string kind, .string nm, .string team, v', .bool en, h', .int .i64 ver]) ∧ Below w.heap.size w w' ∧ ObjOwn w.heap.size w' v' h' (goalV Ss kind V) Ho := by
  have HV := hide hV
  have HH := hide hH
  have HS := hide hS
  obtain ⟨a, cap, rfl⟩ := hV.form'
  obtain ⟨a', cap', rfl⟩ := hH.form'
  obtain ⟨a1, cap1, rfl⟩ := hS.form
  clear hV hH hS
  have HW : ∀ o o', Hid (Below w.heap.size w ((w.alloc o).alloc o')) := fun o o' => ((Below.refl _ _).alloc (Nat.le_refl _) _).alloc (by simp) _
  go_enter Tryz.func10, Tryz.ntmps10
  go_wp2_with fail
  refine (okShapeOf_any lo _ Ss kind _ (HS.out.below (HW _ _).out)).mono ?_
  rintro e w1 ⟨hb, hok⟩
  have hz : w.heap.size + 1 < w1.heap.size := by have := hb.size; simp at this; omega
  have hz0 : w.heap.size < w1.heap.size := by omega
  obtain ⟨hc, hf⟩ := bcell hb
  have HB : Hid (Below w.heap.size w w1) := (HW _ _).out.trans (hb.mono (by simp; omega))
  have g0 : ∀ i, w1.cell? ⟨w.heap.size, i, none⟩ = (#[.string kind, .string nm, .string team, .slice a V.length cap, .bool en, .slice a' Ho.length cap', .int .i64 ver] : Array Value)[i]? := fun i => by
    rw [hc _ _ (by simp; omega), cell_alloc_lt _ _ _ _ (by simp)]; exact new_cell _ _ _ _ _ rfl
  have G1 : Hid (∀ i, w1.cell? ⟨w.heap.size + 1, i, none⟩ = (#[.string ⟨#[]⟩, .string ⟨#[]⟩, .string ⟨#[]⟩, .slice none 0 0, .bool false, .slice none 0 0, .int .i64 0] : Array Value)[i]?) := fun i => by
    rw [hc _ _ (by simp)]; exact new_cell _ _ _ _ _ (by simp)
  have GF1 : Hid (∀ i, w1.frozen? ⟨w.heap.size + 1, i, none⟩ = false) := fun i => by rw [hf _ _ (by simp)]; exact new_free _ _ _ _ _ (by simp)
  have HBB := hide hb
  have HX : ∀ o, Hid (Below w.heap.size w (w1.alloc o)) := fun o => HB.out.alloc (by omega) _
  clear hb hc hf
  rcases hok with ⟨x, fv, hx, rfl, hfd⟩ | ⟨hx, rfl⟩
  · obtain ⟨fa, fcap, rfl⟩ := hfd.form
    have HFD := hide hfd
    have HXX := hide hx
    clear hfd hx
    by_cases hl : x.fields.length = V.length
    · have HG : Hid (goalV Ss kind V = fillV V x.fields) := goalV_eq HXX.out hl
      have hl' : (V.length : Int) = x.fields.length := by omega
      have HL := hide hl
      clear hl
      go_wp2_with fail
      refine (fillObj_any x.kind _ _ _ _ _ _ _ _ V Ho x.fields _ lo (HV.out.below (HX _).out) (HH.out.below (HX _).out) (HFD.out.below (HBB.out.alloc (by simp; omega) _)) n1 n2 HL.out).mono ?_
      rintro e w5 ⟨v5, h5, rfl, hb5, mid, hlo, hmid, ho5, ho6⟩
      obtain ⟨a5, cap5, rfl⟩ := ho5.form
      obtain ⟨a6, cap6, rfl⟩ := ho6.form
      have hz5 : w.heap.size + 1 < w5.heap.size := by have := hb5.size; simp at this; omega
      have hlo' : w.heap.size + 2 ≤ mid := by simp at hlo; omega
      have HB5 : Hid (Below w.heap.size w w5) := (HX _).out.trans (hb5.mono (by simp; omega))
      have HO5 : Hid (StrsOwn (w.heap.size + 2) mid w5 (.slice a5 (fillV V x.fields).length cap5) (fillV V x.fields)) := ho5.wide (by simp; omega) (Nat.le_refl _)
      have HO6 := hide ho6
      have r' : ∀ i, w5.cell? ⟨w.heap.size + 1, i, none⟩ = (#[.string ⟨#[]⟩, .string ⟨#[]⟩, .string ⟨#[]⟩, .slice none 0 0, .bool false, .slice none 0 0, .int .i64 0] : Array Value)[i]? := fun i => by rw [hb5.cell (p := ⟨w.heap.size + 1, i, none⟩) (by simp; omega), cell_alloc_lt _ _ _ _ hz]; exact G1.out i
      have rf : ∀ i, w5.frozen? ⟨w.heap.size + 1, i, none⟩ = false := fun i => by rw [hb5.frozen (p := ⟨w.heap.size + 1, i, none⟩) (by simp; omega), free_alloc_lt _ _ _ _ hz]; exact GF1.out i
      have r0 : w5.cell? ⟨w.heap.size + 1, 0, none⟩ = some (.string ⟨#[]⟩) := r' 0
      have r1 : w5.cell? ⟨w.heap.size + 1, 1, none⟩ = some (.string ⟨#[]⟩) := r' 1
      have r2 : w5.cell? ⟨w.heap.size + 1, 2, none⟩ = some (.string ⟨#[]⟩) := r' 2
      have r3 : w5.cell? ⟨w.heap.size + 1, 3, none⟩ = some (.slice none 0 0) := r' 3
      have r4 : w5.cell? ⟨w.heap.size + 1, 4, none⟩ = some (.bool false) := r' 4
      have r5 : w5.cell? ⟨w.heap.size + 1, 5, none⟩ = some (.slice none 0 0) := r' 5
      have r6 : w5.cell? ⟨w.heap.size + 1, 6, none⟩ = some (.int .i64 0) := r' 6
      clear hb5 ho5 ho6 r' hlo
      go_wp2
      refine bodyPost_ret (v := .agg #[.string kind, .string nm, .string team, .slice a5 (fillV V x.fields).length cap5, .bool en, .slice a6 Ho.length cap6, .int .i64 ver]) (by simp [results, Tryz.results10, go_sem, r0, r1, r2, r3, r4, r5, r6]) rfl ⟨_, _, rfl, ?_, mid, ?_, by simp only [World.setCell, Array.size_modify]; omega, ?_, ?_⟩
      · repeat (refine Below.setCell ?_ (by simp only []; omega) _)
        exact HB5.out
      · omega
      · rw [HG.out]
        refine StrsOwn.wide (lo := w.heap.size + 2) (hi := mid) ?_ (by omega) (Nat.le_refl _)
        repeat (refine StrsOwn.setCell ?_ (by simp only []; omega) _)
        exact HO5.out
      · refine StrsOwn.wide (lo := mid) (hi := w5.heap.size) ?_ (Nat.le_refl _) (by simp only [World.setCell, Array.size_modify]; omega)
        repeat (refine StrsOwn.setCell ?_ (by simp only []; omega) _)
        exact HO6.out
    · have HG : Hid (goalV Ss kind V = V) := goalV_ne HXX.out hl
      have hl' : ¬ (V.length : Int) = x.fields.length := by omega
      go_wp2_with fail
      refine (copyObj_any _ _ _ _ _ _ _ V Ho _ (HV.out.below (HX _).out) (HH.out.below (HX _).out) n1 n2).mono ?_
      rintro e w5 ⟨v5, h5, rfl, hb5, mid, hlo, hmid, ho5, ho6⟩
      obtain ⟨a5, cap5, rfl⟩ := ho5.form
      obtain ⟨a6, cap6, rfl⟩ := ho6.form
      have hz5 : w.heap.size + 1 < w5.heap.size := by have := hb5.size; simp at this; omega
      have hlo' : w.heap.size + 2 ≤ mid := by simp at hlo; omega
      have HB5 : Hid (Below w.heap.size w w5) := (HX _).out.trans (hb5.mono (by simp; omega))
      have HO5 : Hid (StrsOwn (w.heap.size + 2) mid w5 (.slice a5 V.length cap5) V) := ho5.wide (by simp; omega) (Nat.le_refl _)
      have HO6 := hide ho6
      have r' : ∀ i, w5.cell? ⟨w.heap.size + 1, i, none⟩ = (#[.string ⟨#[]⟩, .string ⟨#[]⟩, .string ⟨#[]⟩, .slice none 0 0, .bool false, .slice none 0 0, .int .i64 0] : Array Value)[i]? := fun i => by rw [hb5.cell (p := ⟨w.heap.size + 1, i, none⟩) (by simp; omega), cell_alloc_lt _ _ _ _ hz]; exact G1.out i
      have rf : ∀ i, w5.frozen? ⟨w.heap.size + 1, i, none⟩ = false := fun i => by rw [hb5.frozen (p := ⟨w.heap.size + 1, i, none⟩) (by simp; omega), free_alloc_lt _ _ _ _ hz]; exact GF1.out i
      have r0 : w5.cell? ⟨w.heap.size + 1, 0, none⟩ = some (.string ⟨#[]⟩) := r' 0
      have r1 : w5.cell? ⟨w.heap.size + 1, 1, none⟩ = some (.string ⟨#[]⟩) := r' 1
      have r2 : w5.cell? ⟨w.heap.size + 1, 2, none⟩ = some (.string ⟨#[]⟩) := r' 2
      have r3 : w5.cell? ⟨w.heap.size + 1, 3, none⟩ = some (.slice none 0 0) := r' 3
      have r4 : w5.cell? ⟨w.heap.size + 1, 4, none⟩ = some (.bool false) := r' 4
      have r5 : w5.cell? ⟨w.heap.size + 1, 5, none⟩ = some (.slice none 0 0) := r' 5
      have r6 : w5.cell? ⟨w.heap.size + 1, 6, none⟩ = some (.int .i64 0) := r' 6
      clear hb5 ho5 ho6 r' hlo
      go_wp2
      refine bodyPost_ret (v := .agg #[.string kind, .string nm, .string team, .slice a5 V.length cap5, .bool en, .slice a6 Ho.length cap6, .int .i64 ver]) (by simp [results, Tryz.results10, go_sem, r0, r1, r2, r3, r4, r5, r6]) rfl ⟨_, _, rfl, ?_, mid, ?_, by simp only [World.setCell, Array.size_modify]; omega, ?_, ?_⟩
      · repeat (refine Below.setCell ?_ (by simp only []; omega) _)
        exact HB5.out
      · omega
      · rw [HG.out]
        refine StrsOwn.wide (lo := w.heap.size + 2) (hi := mid) ?_ (by omega) (Nat.le_refl _)
        repeat (refine StrsOwn.setCell ?_ (by simp only []; omega) _)
        exact HO5.out
      · refine StrsOwn.wide (lo := mid) (hi := w5.heap.size) ?_ (Nat.le_refl _) (by simp only [World.setCell, Array.size_modify]; omega)
        repeat (refine StrsOwn.setCell ?_ (by simp only []; omega) _)
        exact HO6.out
  · have HG : Hid (goalV Ss kind V = V) := goalV_none hx
    · go_wp2_with fail
      refine (copyObj_any _ _ _ _ _ _ _ V Ho _ (HV.out.below (HX _).out) (HH.out.below (HX _).out) n1 n2).mono ?_
      rintro e w5 ⟨v5, h5, rfl, hb5, mid, hlo, hmid, ho5, ho6⟩
      obtain ⟨a5, cap5, rfl⟩ := ho5.form
      obtain ⟨a6, cap6, rfl⟩ := ho6.form
      have hz5 : w.heap.size + 1 < w5.heap.size := by have := hb5.size; simp at this; omega
      have hlo' : w.heap.size + 2 ≤ mid := by simp at hlo; omega
      have HB5 : Hid (Below w.heap.size w w5) := (HX _).out.trans (hb5.mono (by simp; omega))
      have HO5 : Hid (StrsOwn (w.heap.size + 2) mid w5 (.slice a5 V.length cap5) V) := ho5.wide (by simp; omega) (Nat.le_refl _)
      have HO6 := hide ho6
      have r' : ∀ i, w5.cell? ⟨w.heap.size + 1, i, none⟩ = (#[.string ⟨#[]⟩, .string ⟨#[]⟩, .string ⟨#[]⟩, .slice none 0 0, .bool false, .slice none 0 0, .int .i64 0] : Array Value)[i]? := fun i => by rw [hb5.cell (p := ⟨w.heap.size + 1, i, none⟩) (by simp; omega), cell_alloc_lt _ _ _ _ hz]; exact G1.out i
      have rf : ∀ i, w5.frozen? ⟨w.heap.size + 1, i, none⟩ = false := fun i => by rw [hb5.frozen (p := ⟨w.heap.size + 1, i, none⟩) (by simp; omega), free_alloc_lt _ _ _ _ hz]; exact GF1.out i
      have r0 : w5.cell? ⟨w.heap.size + 1, 0, none⟩ = some (.string ⟨#[]⟩) := r' 0
      have r1 : w5.cell? ⟨w.heap.size + 1, 1, none⟩ = some (.string ⟨#[]⟩) := r' 1
      have r2 : w5.cell? ⟨w.heap.size + 1, 2, none⟩ = some (.string ⟨#[]⟩) := r' 2
      have r3 : w5.cell? ⟨w.heap.size + 1, 3, none⟩ = some (.slice none 0 0) := r' 3
      have r4 : w5.cell? ⟨w.heap.size + 1, 4, none⟩ = some (.bool false) := r' 4
      have r5 : w5.cell? ⟨w.heap.size + 1, 5, none⟩ = some (.slice none 0 0) := r' 5
      have r6 : w5.cell? ⟨w.heap.size + 1, 6, none⟩ = some (.int .i64 0) := r' 6
      clear hb5 ho5 ho6 r' hlo
      go_wp2
      refine bodyPost_ret (v := .agg #[.string kind, .string nm, .string team, .slice a5 V.length cap5, .bool en, .slice a6 Ho.length cap6, .int .i64 ver]) (by simp [results, Tryz.results10, go_sem, r0, r1, r2, r3, r4, r5, r6]) rfl ⟨_, _, rfl, ?_, mid, ?_, by simp only [World.setCell, Array.size_modify]; omega, ?_, ?_⟩
      · repeat (refine Below.setCell ?_ (by simp only []; omega) _)
        exact HB5.out
      · omega
      · rw [HG.out]
        refine StrsOwn.wide (lo := w.heap.size + 2) (hi := mid) ?_ (by omega) (Nat.le_refl _)
        repeat (refine StrsOwn.setCell ?_ (by simp only []; omega) _)
        exact HO5.out
      · refine StrsOwn.wide (lo := mid) (hi := w5.heap.size) ?_ (Nat.le_refl _) (by simp only [World.setCell, Array.size_modify]; omega)
        repeat (refine StrsOwn.setCell ?_ (by simp only []; omega) _)
        exact HO6.out
end
end Go.Proofs.YtjkkbkdpoebfaaaGreat
