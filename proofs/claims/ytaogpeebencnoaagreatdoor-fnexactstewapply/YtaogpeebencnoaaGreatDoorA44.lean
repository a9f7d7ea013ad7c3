import Derived.Test.YtaogpeebencnoaaGreatDoorA42
import Derived.Test.YtaogpeebencnoaaGreatDoorA43
import Derived.Lib.LazyBuf
namespace Go.Proofs.YtaogpeebencnoaaGreatDoor
open Go.RowKit Go.Deep Go.Maps

theorem valid_cps {B : Sb} (h : validB B = true) : B.cs.length ≤ 200 ∧ risR rSv B.ss = true ∧ risR aheadB B.cs = true ∧ ∀ i (h : i < B.cs.length), 1 ≤ B.cs[i].nu := by
  unfold validB at h
  simp only [Bool.and_eq_true, decide_eq_true_iff] at h
  obtain ⟨-, -, h1, -, ⟨-, h2⟩, -, h3, h4⟩ := h
  refine ⟨h1, h2, h4, fun i hi => ?_⟩
  have := all_at h3 hi
  unfold cpB at this
  split at this
  · cases this
  · unfold cpT at this
    simp only [Bool.and_eq_true] at this
    exact inB_lo this.1

end Go.Proofs.YtaogpeebencnoaaGreatDoor
namespace Go.Proofs.YtaogpeebencnoaaGreatDoor
open Go.RowKit Go.Deep

theorem beL_one (L : List Be) : ∀ u ∈ flatV beL L, u.oneCell' = true := fun u hu => by
  obtain ⟨x, -, h⟩ := flatV_mem hu
  unfold beL at h
  simp only [List.mem_cons, List.not_mem_nil, or_false] at h
  rcases h with rfl | rfl <;> rfl

set_option maxRecDepth 20000 in
set_option maxHeartbeats 4000000 in
theorem cloneSvs_any (lo : Nat) (v : Value) (L : List Sv) (w : World) (hv : SvsAt lo w v L) (hn : L.length ≤ 1048576) :
    Calls Tryz.prog 65 #[v] w fun e w' => ∃ v', e = .returned v' ∧ Below w.heap.size w w' ∧ SvsOwn w.heap.size w'.heap.size w' v' L := by
  have hnil := fun W a n c => Lib.run_eql_slice_nil (P := Tryz.prog) W 32 88 a n c 0 0 Tryz.underlying32
  obtain ⟨i0, hi, hz0, hz1, hz2⟩ := info_parts Tryz.info88
  have HI := hide (And.intro hi (And.intro hz0 (And.intro hz1 hz2)))
  clear hi hz0 hz1 hz2
  have HV := hide hv
  have HZ := hide hv.sizes
  have HM := hide hv.max
  obtain ⟨a, cap, rfl⟩ := hv.form
  clear hv
  cases a with
  | none =>
    have hL : L = [] := List.eq_nil_of_length_eq_zero HV.out.nil
    subst hL
    go_enter Tryz.func65, Tryz.ntmps65
    go_wp2
    go_ret
    exact ⟨_, rfl, Below.refl _ _, Or.inl ⟨_, _, rfl, rfl⟩⟩
  | some ad =>
    have HNW : Hid (∀ o, ∀ j u, (flatV svL L)[j]? = some u → (w.alloc o).cell? (ad.add j) = some u) := fun o j u hj => HV.out.news (one_al w o) ad rfl j u hj
    go_enter Tryz.func65, Tryz.ntmps65
    go_wp2_with (at_builtin; refine wpList_append_own_at _ rfl (.tmp 5) (.tmp 6) 32 rfl w.heap.size 88 i0 (.agg #[.string ⟨#[]⟩, .int .i64 0, .bool false, .int .i64 0, .int .i64 0, .int .i64 0, .int .i64 0, .int .i64 0, .int .i64 0, .int .i64 0, .int .i64 0, .int .i64 0, .int .i64 0]) 13 112 Tryz.underlying32 HI.out.1 HI.out.2.1 HI.out.2.2.1 HI.out.2.2.2 rfl (by decide) _ 0 [] rfl (ownsB_made w w.heap.size 88 13 rfl (Nat.le_refl _)) ad L.length cap (flatV svL L) rfl (flatV_len svL_len L) (HNW.out _) (svL_ones L) (by unfold maxLen; omega) (by omega) (by simp) ?_; intro v' w4 hown4 hgrow4 hnil4 hat4)
    rw [Nat.zero_add, List.nil_append] at hown4
    have HO : Hid (SvsOwn w.heap.size w4.heap.size w4 v' L) := NewRow.Svs (Or.inr hown4) HM.out HZ.out
    have HB : Hid (Below w.heap.size w w4) := (one_al _ _).trans (ownsB_grown (ownsB_made w w.heap.size 88 13 rfl (Nat.le_refl _)) hgrow4 (by simp))
    clear hown4 hgrow4 hnil4 hat4
    go_wp2
    go_ret
    exact ⟨_, rfl, HB.out, HO.out⟩

set_option maxRecDepth 20000 in
set_option maxHeartbeats 4000000 in
theorem cloneCps_any (lo : Nat) (v : Value) (L : List Cp) (w : World) (hv : CpsAt lo w v L) (hn : L.length ≤ 1048576) :
    Calls Tryz.prog 66 #[v] w fun e w' => ∃ v', e = .returned v' ∧ Below w.heap.size w w' ∧ CpsOwn w.heap.size w'.heap.size w' v' L := by
  have hnil := fun W a n c => Lib.run_eql_slice_nil (P := Tryz.prog) W 33 92 a n c 0 0 Tryz.underlying33
  obtain ⟨i0, hi, hz0, hz1, hz2⟩ := info_parts Tryz.info92
  have HI := hide (And.intro hi (And.intro hz0 (And.intro hz1 hz2)))
  clear hi hz0 hz1 hz2
  have HV := hide hv
  have HZ := hide hv.sizes
  have HM := hide hv.max
  obtain ⟨a, cap, rfl⟩ := hv.form
  clear hv
  cases a with
  | none =>
    have hL : L = [] := List.eq_nil_of_length_eq_zero HV.out.nil
    subst hL
    go_enter Tryz.func66, Tryz.ntmps66
    go_wp2
    go_ret
    exact ⟨_, rfl, Below.refl _ _, Or.inl ⟨_, _, rfl, rfl⟩⟩
  | some ad =>
    have HNW : Hid (∀ o, ∀ j u, (flatV cpL L)[j]? = some u → (w.alloc o).cell? (ad.add j) = some u) := fun o j u hj => HV.out.news (one_al w o) ad rfl j u hj
    go_enter Tryz.func66, Tryz.ntmps66
    go_wp2_with (at_builtin; refine wpList_append_own_at _ rfl (.tmp 5) (.tmp 6) 33 rfl w.heap.size 92 i0 (.agg #[.string ⟨#[]⟩, .int .i64 0, .int .i64 0, .int .i64 0, .int .i64 0, .bool false, .string ⟨#[]⟩]) 7 72 Tryz.underlying33 HI.out.1 HI.out.2.1 HI.out.2.2.1 HI.out.2.2.2 rfl (by decide) _ 0 [] rfl (ownsB_made w w.heap.size 92 7 rfl (Nat.le_refl _)) ad L.length cap (flatV cpL L) rfl (flatV_len cpL_len L) (HNW.out _) (cpL_one L) (by unfold maxLen; omega) (by omega) (by simp) ?_; intro v' w4 hown4 hgrow4 hnil4 hat4)
    rw [Nat.zero_add, List.nil_append] at hown4
    have HO : Hid (CpsOwn w.heap.size w4.heap.size w4 v' L) := NewRow.Cps (Or.inr hown4) HM.out HZ.out
    have HB : Hid (Below w.heap.size w w4) := (one_al _ _).trans (ownsB_grown (ownsB_made w w.heap.size 92 7 rfl (Nat.le_refl _)) hgrow4 (by simp))
    clear hown4 hgrow4 hnil4 hat4
    go_wp2
    go_ret
    exact ⟨_, rfl, HB.out, HO.out⟩

set_option maxRecDepth 20000 in
set_option maxHeartbeats 4000000 in
theorem cloneBes_any (lo : Nat) (v : Value) (L : List Be) (w : World) (hv : BesAt lo w v L) (hn : L.length ≤ 1048576) :
    Calls Tryz.prog 67 #[v] w fun e w' => ∃ v', e = .returned v' ∧ Below w.heap.size w w' ∧ BesOwn w.heap.size w'.heap.size w' v' L := by
  have hnil := fun W a n c => Lib.run_eql_slice_nil (P := Tryz.prog) W 34 90 a n c 0 0 Tryz.underlying34
  obtain ⟨i0, hi, hz0, hz1, hz2⟩ := info_parts Tryz.info90
  have HI := hide (And.intro hi (And.intro hz0 (And.intro hz1 hz2)))
  clear hi hz0 hz1 hz2
  have HV := hide hv
  have HZ := hide hv.sizes
  have HM := hide hv.max
  obtain ⟨a, cap, rfl⟩ := hv.form
  clear hv
  cases a with
  | none =>
    have hL : L = [] := List.eq_nil_of_length_eq_zero HV.out.nil
    subst hL
    go_enter Tryz.func67, Tryz.ntmps67
    go_wp2
    go_ret
    exact ⟨_, rfl, Below.refl _ _, Or.inl ⟨_, _, rfl, rfl⟩⟩
  | some ad =>
    have HNW : Hid (∀ o, ∀ j u, (flatV beL L)[j]? = some u → (w.alloc o).cell? (ad.add j) = some u) := fun o j u hj => HV.out.news (one_al w o) ad rfl j u hj
    go_enter Tryz.func67, Tryz.ntmps67
    go_wp2_with (at_builtin; refine wpList_append_own_at _ rfl (.tmp 5) (.tmp 6) 34 rfl w.heap.size 90 i0 (.agg #[.string ⟨#[]⟩, .bool false]) 2 24 Tryz.underlying34 HI.out.1 HI.out.2.1 HI.out.2.2.1 HI.out.2.2.2 rfl (by decide) _ 0 [] rfl (ownsB_made w w.heap.size 90 2 rfl (Nat.le_refl _)) ad L.length cap (flatV beL L) rfl (flatV_len beL_len L) (HNW.out _) (beL_one L) (by unfold maxLen; omega) (by omega) (by simp) ?_; intro v' w4 hown4 hgrow4 hnil4 hat4)
    rw [Nat.zero_add, List.nil_append] at hown4
    have HO : Hid (BesOwn w.heap.size w4.heap.size w4 v' L) := NewRow.Bes (Or.inr hown4) HM.out HZ.out
    have HB : Hid (Below w.heap.size w w4) := (one_al _ _).trans (ownsB_grown (ownsB_made w w.heap.size 90 2 rfl (Nat.le_refl _)) hgrow4 (by simp))
    clear hown4 hgrow4 hnil4 hat4
    go_wp2
    go_ret
    exact ⟨_, rfl, HB.out, HO.out⟩
end Go.Proofs.YtaogpeebencnoaaGreatDoor
namespace Go.Proofs.YtaogpeebencnoaaGreatDoor
open Go.RowKit Go.Deep

/-- what package errors' variable holds -/
def Laid (w : World) : Prop := w.cell? ⟨0, 0, none⟩ = some (.iface 175 (.agg #[.pointer (some ⟨1, 65, none⟩)]))
theorem Laid.pos {w : World} (h : Laid w) : 0 < w.heap.size := World.block_lt_of_cell? w ⟨0, 0, none⟩ h
theorem Laid.below {w w' : World} {B : Nat} (h : Laid w) (hb : Below B w w') (hB : 0 < B) : Laid w' := by
  unfold Laid; rw [hb.cell (p := ⟨0, 0, none⟩) hB]; exact h
theorem Laid.on {w w' : World} (h : Laid w) (hb : Below w.heap.size w w') : Laid w' := h.below hb h.pos

theorem as_hit' (tb : Nat) (c : Int) (o0 : Value) (w : World) (hg : Laid w) (ht0 : w.cell? ⟨tb, 0, none⟩ = some o0) (hf0 : ∀ i, w.frozen? ⟨tb, i, none⟩ = false) :
    Calls Tryz.prog 64 #[.iface 122 (.agg #[.int .i64 c]), .iface 124 (.pointer (some ⟨tb, 0, none⟩))] w fun ev w' => ev = .returned (.bool true) ∧ Below tb w w' ∧ w'.cell? ⟨tb, 0, none⟩ = some (.int .i64 c) := by
  have htl : tb < w.heap.size := World.block_lt_of_cell? w ⟨tb, 0, none⟩ ht0
  refine (as_hit tb c o0 w hg ht0 hf0).mono ?_
  rintro e w' ⟨rfl, rfl⟩
  have up : ∀ (i : Nat) (o0 o1 o2 o3 : Obj), ((((w.alloc o0).alloc o1).alloc o2).alloc o3).cell? ⟨tb, i, none⟩ = w.cell? ⟨tb, i, none⟩ := fun i o0 o1 o2 o3 => by
    rw [World.cell?_alloc_lt _ _ ⟨tb, i, none⟩ (by simp; omega), World.cell?_alloc_lt _ _ ⟨tb, i, none⟩ (by simp; omega), World.cell?_alloc_lt _ _ ⟨tb, i, none⟩ (by simp; omega), World.cell?_alloc_lt _ _ ⟨tb, i, none⟩ htl]
  refine ⟨rfl, ?_, ?_⟩
  · refine Below.setCell (p := ⟨tb, 0, none⟩) ?_ (Nat.le_refl tb) _
    exact ((((Below.refl tb w).alloc (by omega) _).alloc (by simp; omega) _).alloc (by simp; omega) _).alloc (by simp; omega) _
  · exact World.cell?_setCell_same' _ _ _ (by rw [up, ht0]; rfl)

set_option maxRecDepth 20000 in
set_option maxHeartbeats 2000000 in
theorem codeNo_any (w : World) :
    Calls Tryz.prog 28 #[.nilIface] w fun e w' => e = .returned (.int .i64 0) ∧ Below w.heap.size w w' := by
  go_enter Tryz.func28, Tryz.ntmps28
  go_wp2_with fail
  refine (as_nil _ _).mono ?_
  rintro e w' ⟨rfl, rfl⟩
  go_wp2
  go_ret
  exact ⟨rfl, (Below.refl _ _).alloc (Nat.le_refl _) _⟩
set_option maxRecDepth 20000 in
set_option maxHeartbeats 2000000 in
theorem codeOf_any (c : Int) (w : World) (hg : Laid w) :
    Calls Tryz.prog 28 #[.iface 122 (.agg #[.int .i64 c])] w fun e w' => e = .returned (.int .i64 c) ∧ Below w.heap.size w w' := by
  have HG := hide hg
  clear hg
  go_enter Tryz.func28, Tryz.ntmps28
  go_wp2_with fail
  refine (as_hit' w.heap.size c (.int .i64 0) _ (HG.out.on ((Below.refl _ _).alloc (Nat.le_refl _) _)) (by simp) (fun i => by simp)).mono ?_
  rintro e w' ⟨rfl, hb, h0⟩
  have HB : Hid (Below w.heap.size w w') := ((Below.refl _ _).alloc (Nat.le_refl _) _).trans hb
  clear hb
  go_wp2
  go_ret
  exact ⟨rfl, HB.out⟩
end Go.Proofs.YtaogpeebencnoaaGreatDoor
