import Derived.Test.YtckdcejbojhlcaaC4
namespace Go.Proofs.Ytckdcejbojhlcaa
open Go.RowKit Go.Deep

/-- the values that GateFill gives -/
def goalV (Ss : List Sh) (kind : ByteArray) (V : List ByteArray) : List ByteArray :=
  match okShapeOf Ss kind with
  | some x => if x.fields.length = V.length then fillV V x.fields else V
  | none => V
theorem goalV_none {Ss : List Sh} {kind : ByteArray} {V : List ByteArray} (h : okShapeOf Ss kind = none) : goalV Ss kind V = V := by unfold goalV; rw [h]
theorem goalV_ne {Ss : List Sh} {kind : ByteArray} {V : List ByteArray} {x : Sh} (h : okShapeOf Ss kind = some x) (hl : x.fields.length ≠ V.length) : goalV Ss kind V = V := by unfold goalV; rw [h]; exact if_neg hl
theorem goalV_eq {Ss : List Sh} {kind : ByteArray} {V : List ByteArray} {x : Sh} (h : okShapeOf Ss kind = some x) (hl : x.fields.length = V.length) : goalV Ss kind V = fillV V x.fields := by unfold goalV; rw [h]; exact if_pos hl

theorem StrsAt.form' {w : World} {v : Value} {L : List ByteArray} (h : StrsAt w v L) : ∃ a cap, v = .slice a L.length cap := by
  rcases h with ⟨a, cap, h, rfl⟩ | ⟨b, off, cap, h, _⟩
  · exact ⟨a, cap, h⟩
  · exact ⟨_, cap, h⟩

theorem cell_alloc_lt (X : World) (o : Obj) (b i : Nat) (h : b < X.heap.size) : (X.alloc o).cell? ⟨b, i, none⟩ = X.cell? ⟨b, i, none⟩ := ((Below.refl X.heap.size X).alloc (Nat.le_refl _) o).cell (p := ⟨b, i, none⟩) h
theorem free_alloc_lt (X : World) (o : Obj) (b i : Nat) (h : b < X.heap.size) : (X.alloc o).frozen? ⟨b, i, none⟩ = X.frozen? ⟨b, i, none⟩ := ((Below.refl X.heap.size X).alloc (Nat.le_refl _) o).frozen (p := ⟨b, i, none⟩) h

section
variable (kind nm team : ByteArray) (vv hv sv : Value) (en : Bool) (ver : Int) (V Ho : List ByteArray) (Ss : List Sh) (w : World) (lo : Nat)
set_option maxRecDepth 20000 in
set_option maxHeartbeats 2000000 in
theorem implFill_any (hS : ShsAt lo w sv Ss) (hV : StrsAt w vv V) (hH : StrsAt w hv Ho) (n1 : V.length ≤ 1048576) (n2 : Ho.length ≤ 1048576) :
    Calls Try.prog 19 #[sv, .agg #[.string kind, .string nm, .string team, vv, .bool en, hv, .int .i64 ver]] w
      fun e w' => ∃ v' h', e = .returned (.agg #[.string kind, .string nm, .string team, v', .bool en, h', .int .i64 ver]) ∧ Below w.heap.size w w' ∧ ObjOwn w.heap.size w' v' h' (goalV Ss kind V) Ho := by
  have HV := hide hV
  have HH := hide hH
  have HS := hide hS
  obtain ⟨a, cap, rfl⟩ := hV.form'
  obtain ⟨a', cap', rfl⟩ := hH.form'
  obtain ⟨a1, cap1, rfl⟩ := hS.form
  clear hV hH hS
  have HW : ∀ o o', Hid (Below w.heap.size w ((w.alloc o).alloc o')) := fun o o' => ((Below.refl _ _).alloc (Nat.le_refl _) _).alloc (by simp) _
  go_enter Try.func19, Try.ntmps19
  go_wp2_with fail
  refine (okShapeOf_any lo _ Ss kind _ (HS.out.below (HW _ _).out)).mono ?_
  rintro e w1 ⟨hb, hok⟩
  have hz : w.heap.size + 1 < w1.heap.size := by have := hb.size; simp at this; omega
  have hz0 : w.heap.size < w1.heap.size := by omega
  obtain ⟨hc, hf⟩ := bcell hb
  have HB : Hid (Below w.heap.size w w1) := (HW _ _).out.trans (hb.mono (by simp; omega))
  have g0 : ∀ i, w1.cell? ⟨w.heap.size, i, none⟩ = (#[.string kind, .string nm, .string team, .slice a V.length cap, .bool en, .slice a' Ho.length cap', .int .i64 ver] : Array Value)[i]? := fun i => by
    rw [hc _ _ (by simp; omega), cell_alloc_lt _ _ _ _ (by simp)]; exact new_cell _ _ _ _ _ rfl
  have G1 : Hid (∀ i, w1.cell? ⟨w.heap.size + 1, i, none⟩ = (#[.string ⟨#[]⟩, .string ⟨#[]⟩, .string ⟨#[]⟩, .slice none 0 0, .bool false, .slice none 0 0, .int .i64 0] : Array Value)[i]?) := fun i => by
    rw [hc _ _ (by simp)]; exact new_cell _ _ _ _ _ (by simp)
  have GF1 : Hid (∀ i, w1.frozen? ⟨w.heap.size + 1, i, none⟩ = false) := fun i => by rw [hf _ _ (by simp)]; exact new_free _ _ _ _ _ (by simp)
  have HBB := hide hb
  have HX : ∀ o, Hid (Below w.heap.size w (w1.alloc o)) := fun o => HB.out.alloc (by omega) _
  clear hb hc hf
  rcases hok with ⟨x, fv, hx, rfl, hfd⟩ | ⟨hx, rfl⟩
  · obtain ⟨fa, fcap, rfl⟩ := hfd.form
    have HFD := hide hfd
    have HXX := hide hx
    clear hfd hx
    by_cases hl : x.fields.length = V.length
    · have HG : Hid (goalV Ss kind V = fillV V x.fields) := goalV_eq HXX.out hl
      have hl' : (V.length : Int) = x.fields.length := by omega
      have HL := hide hl
      clear hl
      go_wp2_with fail
      refine (fillObj_any x.kind _ _ _ _ _ _ _ _ V Ho x.fields _ lo (HV.out.below (HX _).out) (HH.out.below (HX _).out) (HFD.out.below (HBB.out.alloc (by simp; omega) _)) n1 n2 HL.out).mono ?_
      rintro e w5 ⟨v5, h5, rfl, hb5, mid, hlo, hmid, ho5, ho6⟩
      obtain ⟨a5, cap5, rfl⟩ := ho5.form
      obtain ⟨a6, cap6, rfl⟩ := ho6.form
      have hz5 : w.heap.size + 1 < w5.heap.size := by have := hb5.size; simp at this; omega
      have hlo' : w.heap.size + 2 ≤ mid := by simp at hlo; omega
      have HB5 : Hid (Below w.heap.size w w5) := (HX _).out.trans (hb5.mono (by simp; omega))
      have HO5 : Hid (StrsOwn (w.heap.size + 2) mid w5 (.slice a5 (fillV V x.fields).length cap5) (fillV V x.fields)) := ho5.wide (by simp; omega) (Nat.le_refl _)
      have HO6 := hide ho6
      have r' : ∀ i, w5.cell? ⟨w.heap.size + 1, i, none⟩ = (#[.string ⟨#[]⟩, .string ⟨#[]⟩, .string ⟨#[]⟩, .slice none 0 0, .bool false, .slice none 0 0, .int .i64 0] : Array Value)[i]? := fun i => by rw [hb5.cell (p := ⟨w.heap.size + 1, i, none⟩) (by simp; omega), cell_alloc_lt _ _ _ _ hz]; exact G1.out i
      have rf : ∀ i, w5.frozen? ⟨w.heap.size + 1, i, none⟩ = false := fun i => by rw [hb5.frozen (p := ⟨w.heap.size + 1, i, none⟩) (by simp; omega), free_alloc_lt _ _ _ _ hz]; exact GF1.out i
      have r0 : w5.cell? ⟨w.heap.size + 1, 0, none⟩ = some (.string ⟨#[]⟩) := r' 0
      have r1 : w5.cell? ⟨w.heap.size + 1, 1, none⟩ = some (.string ⟨#[]⟩) := r' 1
      have r2 : w5.cell? ⟨w.heap.size + 1, 2, none⟩ = some (.string ⟨#[]⟩) := r' 2
      have r3 : w5.cell? ⟨w.heap.size + 1, 3, none⟩ = some (.slice none 0 0) := r' 3
      have r4 : w5.cell? ⟨w.heap.size + 1, 4, none⟩ = some (.bool false) := r' 4
      have r5 : w5.cell? ⟨w.heap.size + 1, 5, none⟩ = some (.slice none 0 0) := r' 5
      have r6 : w5.cell? ⟨w.heap.size + 1, 6, none⟩ = some (.int .i64 0) := r' 6
      clear hb5 ho5 ho6 r' hlo
      go_wp2
      refine bodyPost_ret (v := .agg #[.string kind, .string nm, .string team, .slice a5 (fillV V x.fields).length cap5, .bool en, .slice a6 Ho.length cap6, .int .i64 ver]) (by simp [results, Try.results19, go_sem, r0, r1, r2, r3, r4, r5, r6]) rfl ⟨_, _, rfl, ?_, mid, ?_, by simp only [World.setCell, Array.size_modify]; omega, ?_, ?_⟩
      · repeat (refine Below.setCell ?_ (by simp only []; omega) _)
        exact HB5.out
      · omega
      · rw [HG.out]
        refine StrsOwn.wide (lo := w.heap.size + 2) (hi := mid) ?_ (by omega) (Nat.le_refl _)
        repeat (refine StrsOwn.setCell ?_ (by simp only []; omega) _)
        exact HO5.out
      · refine StrsOwn.wide (lo := mid) (hi := w5.heap.size) ?_ (Nat.le_refl _) (by simp only [World.setCell, Array.size_modify]; omega)
        repeat (refine StrsOwn.setCell ?_ (by simp only []; omega) _)
        exact HO6.out
    · have HG : Hid (goalV Ss kind V = V) := goalV_ne HXX.out hl
      have hl' : ¬ (V.length : Int) = x.fields.length := by omega
      go_wp2_with fail
      refine (copyObj_any _ _ _ _ _ _ _ V Ho _ (HV.out.below (HX _).out) (HH.out.below (HX _).out) n1 n2).mono ?_
      rintro e w5 ⟨v5, h5, rfl, hb5, mid, hlo, hmid, ho5, ho6⟩
      obtain ⟨a5, cap5, rfl⟩ := ho5.form
      obtain ⟨a6, cap6, rfl⟩ := ho6.form
      have hz5 : w.heap.size + 1 < w5.heap.size := by have := hb5.size; simp at this; omega
      have hlo' : w.heap.size + 2 ≤ mid := by simp at hlo; omega
      have HB5 : Hid (Below w.heap.size w w5) := (HX _).out.trans (hb5.mono (by simp; omega))
      have HO5 : Hid (StrsOwn (w.heap.size + 2) mid w5 (.slice a5 V.length cap5) V) := ho5.wide (by simp; omega) (Nat.le_refl _)
      have HO6 := hide ho6
      have r' : ∀ i, w5.cell? ⟨w.heap.size + 1, i, none⟩ = (#[.string ⟨#[]⟩, .string ⟨#[]⟩, .string ⟨#[]⟩, .slice none 0 0, .bool false, .slice none 0 0, .int .i64 0] : Array Value)[i]? := fun i => by rw [hb5.cell (p := ⟨w.heap.size + 1, i, none⟩) (by simp; omega), cell_alloc_lt _ _ _ _ hz]; exact G1.out i
      have rf : ∀ i, w5.frozen? ⟨w.heap.size + 1, i, none⟩ = false := fun i => by rw [hb5.frozen (p := ⟨w.heap.size + 1, i, none⟩) (by simp; omega), free_alloc_lt _ _ _ _ hz]; exact GF1.out i
      have r0 : w5.cell? ⟨w.heap.size + 1, 0, none⟩ = some (.string ⟨#[]⟩) := r' 0
      have r1 : w5.cell? ⟨w.heap.size + 1, 1, none⟩ = some (.string ⟨#[]⟩) := r' 1
      have r2 : w5.cell? ⟨w.heap.size + 1, 2, none⟩ = some (.string ⟨#[]⟩) := r' 2
      have r3 : w5.cell? ⟨w.heap.size + 1, 3, none⟩ = some (.slice none 0 0) := r' 3
      have r4 : w5.cell? ⟨w.heap.size + 1, 4, none⟩ = some (.bool false) := r' 4
      have r5 : w5.cell? ⟨w.heap.size + 1, 5, none⟩ = some (.slice none 0 0) := r' 5
      have r6 : w5.cell? ⟨w.heap.size + 1, 6, none⟩ = some (.int .i64 0) := r' 6
      clear hb5 ho5 ho6 r' hlo
      go_wp2
      refine bodyPost_ret (v := .agg #[.string kind, .string nm, .string team, .slice a5 V.length cap5, .bool en, .slice a6 Ho.length cap6, .int .i64 ver]) (by simp [results, Try.results19, go_sem, r0, r1, r2, r3, r4, r5, r6]) rfl ⟨_, _, rfl, ?_, mid, ?_, by simp only [World.setCell, Array.size_modify]; omega, ?_, ?_⟩
      · repeat (refine Below.setCell ?_ (by simp only []; omega) _)
        exact HB5.out
      · omega
      · rw [HG.out]
        refine StrsOwn.wide (lo := w.heap.size + 2) (hi := mid) ?_ (by omega) (Nat.le_refl _)
        repeat (refine StrsOwn.setCell ?_ (by simp only []; omega) _)
        exact HO5.out
      · refine StrsOwn.wide (lo := mid) (hi := w5.heap.size) ?_ (Nat.le_refl _) (by simp only [World.setCell, Array.size_modify]; omega)
        repeat (refine StrsOwn.setCell ?_ (by simp only []; omega) _)
        exact HO6.out
  · have HG : Hid (goalV Ss kind V = V) := goalV_none hx
    · go_wp2_with fail
      refine (copyObj_any _ _ _ _ _ _ _ V Ho _ (HV.out.below (HX _).out) (HH.out.below (HX _).out) n1 n2).mono ?_
      rintro e w5 ⟨v5, h5, rfl, hb5, mid, hlo, hmid, ho5, ho6⟩
      obtain ⟨a5, cap5, rfl⟩ := ho5.form
      obtain ⟨a6, cap6, rfl⟩ := ho6.form
      have hz5 : w.heap.size + 1 < w5.heap.size := by have := hb5.size; simp at this; omega
      have hlo' : w.heap.size + 2 ≤ mid := by simp at hlo; omega
      have HB5 : Hid (Below w.heap.size w w5) := (HX _).out.trans (hb5.mono (by simp; omega))
      have HO5 : Hid (StrsOwn (w.heap.size + 2) mid w5 (.slice a5 V.length cap5) V) := ho5.wide (by simp; omega) (Nat.le_refl _)
      have HO6 := hide ho6
      have r' : ∀ i, w5.cell? ⟨w.heap.size + 1, i, none⟩ = (#[.string ⟨#[]⟩, .string ⟨#[]⟩, .string ⟨#[]⟩, .slice none 0 0, .bool false, .slice none 0 0, .int .i64 0] : Array Value)[i]? := fun i => by rw [hb5.cell (p := ⟨w.heap.size + 1, i, none⟩) (by simp; omega), cell_alloc_lt _ _ _ _ hz]; exact G1.out i
      have rf : ∀ i, w5.frozen? ⟨w.heap.size + 1, i, none⟩ = false := fun i => by rw [hb5.frozen (p := ⟨w.heap.size + 1, i, none⟩) (by simp; omega), free_alloc_lt _ _ _ _ hz]; exact GF1.out i
      have r0 : w5.cell? ⟨w.heap.size + 1, 0, none⟩ = some (.string ⟨#[]⟩) := r' 0
      have r1 : w5.cell? ⟨w.heap.size + 1, 1, none⟩ = some (.string ⟨#[]⟩) := r' 1
      have r2 : w5.cell? ⟨w.heap.size + 1, 2, none⟩ = some (.string ⟨#[]⟩) := r' 2
      have r3 : w5.cell? ⟨w.heap.size + 1, 3, none⟩ = some (.slice none 0 0) := r' 3
      have r4 : w5.cell? ⟨w.heap.size + 1, 4, none⟩ = some (.bool false) := r' 4
      have r5 : w5.cell? ⟨w.heap.size + 1, 5, none⟩ = some (.slice none 0 0) := r' 5
      have r6 : w5.cell? ⟨w.heap.size + 1, 6, none⟩ = some (.int .i64 0) := r' 6
      clear hb5 ho5 ho6 r' hlo
      go_wp2
      refine bodyPost_ret (v := .agg #[.string kind, .string nm, .string team, .slice a5 V.length cap5, .bool en, .slice a6 Ho.length cap6, .int .i64 ver]) (by simp [results, Try.results19, go_sem, r0, r1, r2, r3, r4, r5, r6]) rfl ⟨_, _, rfl, ?_, mid, ?_, by simp only [World.setCell, Array.size_modify]; omega, ?_, ?_⟩
      · repeat (refine Below.setCell ?_ (by simp only []; omega) _)
        exact HB5.out
      · omega
      · rw [HG.out]
        refine StrsOwn.wide (lo := w.heap.size + 2) (hi := mid) ?_ (by omega) (Nat.le_refl _)
        repeat (refine StrsOwn.setCell ?_ (by simp only []; omega) _)
        exact HO5.out
      · refine StrsOwn.wide (lo := mid) (hi := w5.heap.size) ?_ (Nat.le_refl _) (by simp only [World.setCell, Array.size_modify]; omega)
        repeat (refine StrsOwn.setCell ?_ (by simp only []; omega) _)
        exact HO6.out
end
end Go.Proofs.Ytckdcejbojhlcaa
