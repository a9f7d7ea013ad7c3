import Derived.Test.YtckdcejbojhlcaaGreatDoorA1
import Derived.Test.YtckdcejbojhlcaaGreatDoorE2
namespace Go.Proofs.YtckdcejbojhlcaaGreatDoor
open Go.RowKit Go.Deep

/-- what package errors' variable holds -/
def Laid (w : World) : Prop := w.cell? ⟨0, 0, none⟩ = some (.iface 109 (.agg #[.pointer (some ⟨1, 54, none⟩)]))
theorem Laid.pos {w : World} (h : Laid w) : 0 < w.heap.size := World.block_lt_of_cell? w ⟨0, 0, none⟩ h
theorem Laid.below {w w' : World} {B : Nat} (h : Laid w) (hb : Below B w w') (hB : 0 < B) : Laid w' := by
  unfold Laid; rw [hb.cell (p := ⟨0, 0, none⟩) hB]; exact h
theorem Laid.on {w w' : World} (h : Laid w) (hb : Below w.heap.size w w') : Laid w' := h.below hb h.pos

theorem as_hit' (tb : Nat) (c p : Int) (o0 o1 : Value) (w : World) (hg : Laid w) (ht0 : w.cell? ⟨tb, 0, none⟩ = some o0) (ht1 : w.cell? ⟨tb, 1, none⟩ = some o1) (hf0 : ∀ i, w.frozen? ⟨tb, i, none⟩ = false) :
    Calls Tryz.prog 37 #[.iface 71 (.agg #[.int .i64 c, .int .i64 p]), .iface 73 (.pointer (some ⟨tb, 0, none⟩))] w fun ev w' => ev = .returned (.bool true) ∧ Below tb w w' ∧ w'.cell? ⟨tb, 0, none⟩ = some (.int .i64 c) ∧ w'.cell? ⟨tb, 1, none⟩ = some (.int .i64 p) := by
  have htl : tb < w.heap.size := World.block_lt_of_cell? w ⟨tb, 0, none⟩ ht0
  refine (as_hit tb c p o0 o1 w hg ht0 ht1 hf0).mono ?_
  rintro e w' ⟨rfl, rfl⟩
  have up : ∀ (i : Nat) (o0 o1 o2 o3 : Obj), ((((w.alloc o0).alloc o1).alloc o2).alloc o3).cell? ⟨tb, i, none⟩ = w.cell? ⟨tb, i, none⟩ := fun i o0 o1 o2 o3 => by
    rw [World.cell?_alloc_lt _ _ ⟨tb, i, none⟩ (by simp; omega), World.cell?_alloc_lt _ _ ⟨tb, i, none⟩ (by simp; omega), World.cell?_alloc_lt _ _ ⟨tb, i, none⟩ (by simp; omega), World.cell?_alloc_lt _ _ ⟨tb, i, none⟩ htl]
  refine ⟨rfl, ?_, ?_, ?_⟩
  · refine Below.setCell (p := ⟨tb, 1, none⟩) (Below.setCell (p := ⟨tb, 0, none⟩) ?_ (Nat.le_refl tb) _) (Nat.le_refl tb) _
    exact ((((Below.refl tb w).alloc (by omega) _).alloc (by simp; omega) _).alloc (by simp; omega) _).alloc (by simp; omega) _
  · rw [World.cell?_setCell_other _ ⟨tb, 1, none⟩ ⟨tb, 0, none⟩ _ (by simp)]
    exact World.cell?_setCell_same' _ _ _ (by rw [up, ht0]; rfl)
  · exact World.cell?_setCell_same' _ _ _ (by rw [World.cell?_setCell_other _ ⟨tb, 0, none⟩ ⟨tb, 1, none⟩ _ (by simp), up, ht1]; rfl)

set_option maxRecDepth 20000 in
set_option maxHeartbeats 2000000 in
theorem faultOf_any (r : Int × Int) (hr : r.1 = 0 → r.2 = 0) (w : World) (hg : Laid w) :
    Calls Tryz.prog 22 #[errOf r] w fun e w' => e = .returned (.tuple #[.int .i64 r.1, .int .i64 r.2]) ∧ Below w.heap.size w w' := by
  obtain ⟨c, p⟩ := r
  have HG := hide hg
  clear hg
  by_cases hc : c = 0
  · subst hc
    obtain rfl : p = 0 := hr rfl
    rw [errOf_no]
    go_enter Tryz.func22, Tryz.ntmps22
    go_wp2_with fail
    refine (as_nil _ _).mono ?_
    rintro e w' ⟨rfl, rfl⟩
    go_wp2
    go_ret2
    exact ⟨rfl, (Below.refl _ _).alloc (Nat.le_refl _) _⟩
  · rw [errOf_at hc]
    clear hr hc
    go_enter Tryz.func22, Tryz.ntmps22
    go_wp2_with fail
    refine (as_hit' w.heap.size c p (.int .i64 0) (.int .i64 0) _ (HG.out.on ((Below.refl _ _).alloc (Nat.le_refl _) _)) (by simp) (by simp) (fun i => by simp)).mono ?_
    rintro e w' ⟨rfl, hb, h0, h1⟩
    have HB : Hid (Below w.heap.size w w') := ((Below.refl _ _).alloc (Nat.le_refl _) _).trans hb
    clear hb
    go_wp2
    go_quiet (fail)
    go_wp2
    go_ret2
    exact ⟨rfl, below_drewN HB.out _⟩
end Go.Proofs.YtckdcejbojhlcaaGreatDoor
