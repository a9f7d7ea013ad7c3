import Derived.Test.YtdeammfdkaomlaaGreatV23
import Derived.Test.YtdeammfdkaomlaaGreatV42
import Derived.Sort.Walk0
namespace Go.Proofs.YtdeammfdkaomlaaGreat
open Go.RowKit Go.Deep

set_option maxHeartbeats 1000000 in
theorem markRecSlotS_nil (k : Int) (w : World) : Calls Tryz.prog 82 #[.slice none 0 0, .int .i64 k] w fun e w' => e = .returned (.int .i64 k) ∧ w' = w := by
  go_enter Tryz.func82, Tryz.ntmps82
  go_wp2
  go_loop [1, 5] (fun l i => l = .int .i64 k ∧ i = .int .i64 0) (fun _ _ => 0)
  case atStart => exact ⟨rfl, rfl⟩
  case round =>
    obtain ⟨rfl, rfl⟩ := hrel
    go_wp2
    go_ret
    exact ⟨rfl, rfl⟩
set_option maxHeartbeats 1000000 in
theorem heldRecSlotS_nil (k : Int) (w : World) : Calls Tryz.prog 88 #[.slice none 0 0, .int .i64 k] w fun e w' => e = .returned (.int .i64 k) ∧ w' = w := by
  go_enter Tryz.func88, Tryz.ntmps88
  go_wp2
  go_loop [1, 5] (fun l i => l = .int .i64 k ∧ i = .int .i64 0) (fun _ _ => 0)
  case atStart => exact ⟨rfl, rfl⟩
  case round =>
    obtain ⟨rfl, rfl⟩ := hrel
    go_wp2
    go_ret
    exact ⟨rfl, rfl⟩
set_option maxHeartbeats 1000000 in
theorem markRecMessageS_nil (k : Int) (w : World) : Calls Tryz.prog 21 #[.slice none 0 0, .int .i64 k] w fun e w' => e = .returned (.int .i64 k) ∧ w' = w := by
  go_enter Tryz.func21, Tryz.ntmps21
  go_wp2
  go_loop [1, 5] (fun l i => l = .int .i64 k ∧ i = .int .i64 0) (fun _ _ => 0)
  case atStart => exact ⟨rfl, rfl⟩
  case round =>
    obtain ⟨rfl, rfl⟩ := hrel
    go_wp2
    go_ret
    exact ⟨rfl, rfl⟩
set_option maxHeartbeats 1000000 in
theorem heldRecMessageS_nil (k : Int) (w : World) : Calls Tryz.prog 23 #[.slice none 0 0, .int .i64 k] w fun e w' => e = .returned (.int .i64 k) ∧ w' = w := by
  go_enter Tryz.func23, Tryz.ntmps23
  go_wp2
  go_loop [1, 5] (fun l i => l = .int .i64 k ∧ i = .int .i64 0) (fun _ _ => 0)
  case atStart => exact ⟨rfl, rfl⟩
  case round =>
    obtain ⟨rfl, rfl⟩ := hrel
    go_wp2
    go_ret
    exact ⟨rfl, rfl⟩
set_option maxHeartbeats 1000000 in
theorem markStringS_nil (k : Int) (w : World) : Calls Tryz.prog 80 #[.slice none 0 0, .int .i64 k] w fun e w' => e = .returned (.int .i64 k) ∧ w' = w := by
  go_enter Tryz.func80, Tryz.ntmps80
  go_wp2
  go_loop [1, 5] (fun l i => l = .int .i64 k ∧ i = .int .i64 0) (fun _ _ => 0)
  case atStart => exact ⟨rfl, rfl⟩
  case round =>
    obtain ⟨rfl, rfl⟩ := hrel
    go_wp2
    go_ret
    exact ⟨rfl, rfl⟩
set_option maxHeartbeats 1000000 in
theorem heldStringS_nil (k : Int) (w : World) : Calls Tryz.prog 86 #[.slice none 0 0, .int .i64 k] w fun e w' => e = .returned (.int .i64 k) ∧ w' = w := by
  go_enter Tryz.func86, Tryz.ntmps86
  go_wp2
  go_loop [1, 5] (fun l i => l = .int .i64 k ∧ i = .int .i64 0) (fun _ _ => 0)
  case atStart => exact ⟨rfl, rfl⟩
  case round =>
    obtain ⟨rfl, rfl⟩ := hrel
    go_wp2
    go_ret
    exact ⟨rfl, rfl⟩
set_option maxHeartbeats 1000000 in
theorem markIntS_nil (k : Int) (w : World) : Calls Tryz.prog 81 #[.slice none 0 0, .int .i64 k] w fun e w' => e = .returned (.int .i64 k) ∧ w' = w := by
  go_enter Tryz.func81, Tryz.ntmps81
  go_wp2
  go_loop [1, 5] (fun l i => l = .int .i64 k ∧ i = .int .i64 0) (fun _ _ => 0)
  case atStart => exact ⟨rfl, rfl⟩
  case round =>
    obtain ⟨rfl, rfl⟩ := hrel
    go_wp2
    go_ret
    exact ⟨rfl, rfl⟩
set_option maxHeartbeats 1000000 in
theorem heldIntS_nil (k : Int) (w : World) : Calls Tryz.prog 87 #[.slice none 0 0, .int .i64 k] w fun e w' => e = .returned (.int .i64 k) ∧ w' = w := by
  go_enter Tryz.func87, Tryz.ntmps87
  go_wp2
  go_loop [1, 5] (fun l i => l = .int .i64 k ∧ i = .int .i64 0) (fun _ _ => 0)
  case atStart => exact ⟨rfl, rfl⟩
  case round =>
    obtain ⟨rfl, rfl⟩ := hrel
    go_wp2
    go_ret
    exact ⟨rfl, rfl⟩
set_option maxHeartbeats 1000000 in
theorem markRecAckS_nil (k : Int) (w : World) : Calls Tryz.prog 83 #[.slice none 0 0, .int .i64 k] w fun e w' => e = .returned (.int .i64 k) ∧ w' = w := by
  go_enter Tryz.func83, Tryz.ntmps83
  go_wp2
  go_loop [1, 5] (fun l i => l = .int .i64 k ∧ i = .int .i64 0) (fun _ _ => 0)
  case atStart => exact ⟨rfl, rfl⟩
  case round =>
    obtain ⟨rfl, rfl⟩ := hrel
    go_wp2
    go_ret
    exact ⟨rfl, rfl⟩
set_option maxHeartbeats 1000000 in
theorem heldRecAckS_nil (k : Int) (w : World) : Calls Tryz.prog 89 #[.slice none 0 0, .int .i64 k] w fun e w' => e = .returned (.int .i64 k) ∧ w' = w := by
  go_enter Tryz.func89, Tryz.ntmps89
  go_wp2
  go_loop [1, 5] (fun l i => l = .int .i64 k ∧ i = .int .i64 0) (fun _ _ => 0)
  case atStart => exact ⟨rfl, rfl⟩
  case round =>
    obtain ⟨rfl, rfl⟩ := hrel
    go_wp2
    go_ret
    exact ⟨rfl, rfl⟩
/-- the cells of a recorder with nothing in its lists -/
def nwL (n of : Int) (up : Bool) : List Value := [.int .i64 n, .int .i64 of, .bool up, .int .i64 0, .int .i64 0, .slice none 0 0, .int .i64 0, .int .i64 0, .slice none 0 0, .slice none 0 0, .slice none 0 0, .bool false, .bool false, .int .i64 0, .slice none 0 0, .slice none 0 0, .slice none 0 0, .int .i64 0]
end Go.Proofs.YtdeammfdkaomlaaGreat
namespace Go.Proofs.YtdeammfdkaomlaaGreat
open Go.RowKit Go.Deep

def newB (n of : Int) : Bool := inB 1 5 of && inB 1 of n
def newL (n of : Int) : List Value := if newB n of then nwL n of true else nwL 0 0 false
theorem nw_one (n of : Int) (up : Bool) : Array.all (nwL n of up).toArray (·.oneCell') = true := by simp [nwL, Value.oneCell']
set_option maxRecDepth 20000 in
set_option maxHeartbeats 8000000 in
theorem specNew_any (n of : Int) (w : World) : Calls Tryz.prog 97 #[.int .i64 n, .int .i64 of] w fun e w' => e = .returned (.agg (newL n of).toArray) ∧ Below w.heap.size w w' := by
  cases h1 : inB 1 5 of with
  | false =>
    have HL : Hid (newL n of = nwL 0 0 false) := by unfold Hid newL newB; rw [h1]; rfl
    go_enter Tryz.func97, Tryz.ntmps97
    go_wp2_with (first | (go_at_call 96; refine (in21_any _ _ _ _).mono ?_; rintro e w' ⟨rfl, rfl⟩) | (with_reducible refine wpList_store_mid (by with_reducible rfl) 61 (.tmp 4) (.tmp 14) (by with_reducible rfl) w.heap.size 0 (nwL 0 0 false).toArray (by with_unfolding_all rfl) (by with_unfolding_all rfl) (there_made _ _ _ _ (by with_unfolding_all rfl)) (by with_unfolding_all exact sizeRr) (nw_one _ _ _) ?_; refine Hid.out ?_))
    generalize hW : World.setCells _ _ _ _ = W9
    have F9 : Hid (Box W9 w.heap.size (nwL 0 0 false).toArray) := by unfold Hid; rw [← hW]; exact (Box.new _ _ _ _ rfl).full rfl
    have HB9 : Hid (Below w.heap.size w W9) := by unfold Hid; rw [← hW]; exact Below.sets (Nat.le_refl _) _ _ (one_al _ _)
    clear hW
    refine hide ?_
    go_wp2
    exact bodyPost_ret (v := .agg (nwL 0 0 false).toArray) (res_rr (p := 4) (ty := 61) Tryz.results97 _ _ w.heap.size 0 (nwL 0 0 false) _ rfl (F9.out.range rfl) Tryz.underlying61 rfl sizeRr) rfl ⟨by rw [HL.out], HB9.out⟩
  | true =>
  cases h2 : inB 1 of n with
  | false =>
    have HL : Hid (newL n of = nwL 0 0 false) := by unfold Hid newL newB; rw [h1, h2]; rfl
    go_enter Tryz.func97, Tryz.ntmps97
    go_wp2_with (first | (go_at_call 96; refine (in21_any _ _ _ _).mono ?_; rintro e w' ⟨rfl, rfl⟩) | (with_reducible refine wpList_store_mid (by with_reducible rfl) 61 (.tmp 4) (.tmp 14) (by with_reducible rfl) w.heap.size 0 (nwL 0 0 false).toArray (by with_unfolding_all rfl) (by with_unfolding_all rfl) (there_made _ _ _ _ (by with_unfolding_all rfl)) (by with_unfolding_all exact sizeRr) (nw_one _ _ _) ?_; refine Hid.out ?_))
    generalize hW : World.setCells _ _ _ _ = W9
    have F9 : Hid (Box W9 w.heap.size (nwL 0 0 false).toArray) := by unfold Hid; rw [← hW]; exact (Box.new _ _ _ _ rfl).full rfl
    have HB9 : Hid (Below w.heap.size w W9) := by unfold Hid; rw [← hW]; exact Below.sets (Nat.le_refl _) _ _ (one_al _ _)
    clear hW
    refine hide ?_
    go_wp2
    exact bodyPost_ret (v := .agg (nwL 0 0 false).toArray) (res_rr (p := 4) (ty := 61) Tryz.results97 _ _ w.heap.size 0 (nwL 0 0 false) _ rfl (F9.out.range rfl) Tryz.underlying61 rfl sizeRr) rfl ⟨by rw [HL.out], HB9.out⟩
  | true =>
    have HL : Hid (newL n of = nwL n of true) := by unfold Hid newL newB; rw [h1, h2]; rfl
    go_enter Tryz.func97, Tryz.ntmps97
    go_wp2_with (first | (go_at_call 96; refine (in21_any _ _ _ _).mono ?_; rintro e w' ⟨rfl, rfl⟩) | (with_reducible refine wpList_store_mid (by with_reducible rfl) 61 (.tmp 4) (.tmp 17) (by with_reducible rfl) w.heap.size 0 (nwL n of true).toArray (by with_unfolding_all rfl) (by with_unfolding_all rfl) (there_made _ _ _ _ (by with_unfolding_all rfl)) (by with_unfolding_all exact sizeRr) (nw_one _ _ _) ?_; refine Hid.out ?_))
    generalize hW : World.setCells _ _ _ _ = W9
    have F9 : Hid (Box W9 w.heap.size (nwL n of true).toArray) := by unfold Hid; rw [← hW]; exact (Box.new _ _ _ _ rfl).full rfl
    have HB9 : Hid (Below w.heap.size w W9) := by unfold Hid; rw [← hW]; exact Below.sets (Nat.le_refl _) _ _ (one_al _ _)
    clear hW
    refine hide ?_
    go_wp2
    exact bodyPost_ret (v := .agg (nwL n of true).toArray) (res_rr (p := 4) (ty := 61) Tryz.results97 _ _ w.heap.size 0 (nwL n of true) _ rfl (F9.out.range rfl) Tryz.underlying61 rfl sizeRr) rfl ⟨by rw [HL.out], HB9.out⟩

set_option maxRecDepth 20000 in
set_option maxHeartbeats 8000000 in
theorem implNew_any (n of : Int) (w : World) : Calls Tryz.prog 105 #[.int .i64 n, .int .i64 of] w fun e w' => e = .returned (.agg (newL n of).toArray) ∧ Below w.heap.size w w' := by
  cases h1 : (inB 1 5 of && inB 1 of n) with
  | false =>
    have HL : Hid (newL n of = nwL 0 0 false) := by unfold Hid newL newB; rw [h1]; rfl
    go_enter Tryz.func105, Tryz.ntmps105
    go_wp2_with (first | (go_at_call 136; refine (numberI_any _ _ _).mono ?_; rw [h1]; rintro e w' ⟨rfl, rfl⟩) | (with_reducible refine wpList_store_mid (by with_reducible rfl) 61 (.tmp 4) (.tmp 9) (by with_reducible rfl) w.heap.size 0 (nwL 0 0 false).toArray (by with_unfolding_all rfl) (by with_unfolding_all rfl) (there_made _ _ _ _ (by with_unfolding_all rfl)) (by with_unfolding_all exact sizeRr) (nw_one _ _ _) ?_; refine Hid.out ?_))
    generalize hW : World.setCells _ _ _ _ = W9
    have F9 : Hid (Box W9 w.heap.size (nwL 0 0 false).toArray) := by unfold Hid; rw [← hW]; exact (Box.new _ _ _ _ rfl).full rfl
    have HB9 : Hid (Below w.heap.size w W9) := by unfold Hid; rw [← hW]; exact Below.sets (Nat.le_refl _) _ _ (one_al _ _)
    clear hW
    refine hide ?_
    go_wp2
    exact bodyPost_ret (v := .agg (nwL 0 0 false).toArray) (res_rr (p := 4) (ty := 61) Tryz.results105 _ _ w.heap.size 0 (nwL 0 0 false) _ rfl (F9.out.range rfl) Tryz.underlying61 rfl sizeRr) rfl ⟨by rw [HL.out], HB9.out⟩
  | true =>
    have HL : Hid (newL n of = nwL n of true) := by unfold Hid newL newB; rw [h1]; rfl
    go_enter Tryz.func105, Tryz.ntmps105
    go_wp2_with (first | (go_at_call 136; refine (numberI_any _ _ _).mono ?_; rw [h1]; rintro e w' ⟨rfl, rfl⟩) | (with_reducible refine wpList_store_mid (by with_reducible rfl) 61 (.tmp 4) (.tmp 12) (by with_reducible rfl) w.heap.size 0 (nwL n of true).toArray (by with_unfolding_all rfl) (by with_unfolding_all rfl) (there_made _ _ _ _ (by with_unfolding_all rfl)) (by with_unfolding_all exact sizeRr) (nw_one _ _ _) ?_; refine Hid.out ?_))
    generalize hW : World.setCells _ _ _ _ = W9
    have F9 : Hid (Box W9 w.heap.size (nwL n of true).toArray) := by unfold Hid; rw [← hW]; exact (Box.new _ _ _ _ rfl).full rfl
    have HB9 : Hid (Below w.heap.size w W9) := by unfold Hid; rw [← hW]; exact Below.sets (Nat.le_refl _) _ _ (one_al _ _)
    clear hW
    refine hide ?_
    go_wp2
    exact bodyPost_ret (v := .agg (nwL n of true).toArray) (res_rr (p := 4) (ty := 61) Tryz.results105 _ _ w.heap.size 0 (nwL n of true) _ rfl (F9.out.range rfl) Tryz.underlying61 rfl sizeRr) rfl ⟨by rw [HL.out], HB9.out⟩
end Go.Proofs.YtdeammfdkaomlaaGreat
