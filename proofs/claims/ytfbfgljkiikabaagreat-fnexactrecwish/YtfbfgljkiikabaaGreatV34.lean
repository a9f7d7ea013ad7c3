import Derived.Test.YtfbfgljkiikabaaGreatV33
namespace Go.Proofs.YtfbfgljkiikabaaGreat
open Go.RowKit Go.Deep

set_option maxHeartbeats 1000000 in
theorem markRecSlotS_nil (k : Int) (w : World) : Calls Tryz.prog 53 #[.slice none 0 0, .int .i64 k] w fun e w' => e = .returned (.int .i64 k) ∧ w' = w := by
  go_enter Tryz.func53, Tryz.ntmps53
  go_wp2
  go_loop [1, 5] (fun l i => l = .int .i64 k ∧ i = .int .i64 0) (fun _ _ => 0)
  case atStart => exact ⟨rfl, rfl⟩
  case round =>
    obtain ⟨rfl, rfl⟩ := hrel
    go_wp2
    go_ret
    exact ⟨rfl, rfl⟩
set_option maxHeartbeats 1000000 in
theorem heldRecSlotS_nil (k : Int) (w : World) : Calls Tryz.prog 58 #[.slice none 0 0, .int .i64 k] w fun e w' => e = .returned (.int .i64 k) ∧ w' = w := by
  go_enter Tryz.func58, Tryz.ntmps58
  go_wp2
  go_loop [1, 5] (fun l i => l = .int .i64 k ∧ i = .int .i64 0) (fun _ _ => 0)
  case atStart => exact ⟨rfl, rfl⟩
  case round =>
    obtain ⟨rfl, rfl⟩ := hrel
    go_wp2
    go_ret
    exact ⟨rfl, rfl⟩
set_option maxHeartbeats 1000000 in
theorem markRecMessageS_nil (k : Int) (w : World) : Calls Tryz.prog 22 #[.slice none 0 0, .int .i64 k] w fun e w' => e = .returned (.int .i64 k) ∧ w' = w := by
  go_enter Tryz.func22, Tryz.ntmps22
  go_wp2
  go_loop [1, 5] (fun l i => l = .int .i64 k ∧ i = .int .i64 0) (fun _ _ => 0)
  case atStart => exact ⟨rfl, rfl⟩
  case round =>
    obtain ⟨rfl, rfl⟩ := hrel
    go_wp2
    go_ret
    exact ⟨rfl, rfl⟩
set_option maxHeartbeats 1000000 in
theorem heldRecMessageS_nil (k : Int) (w : World) : Calls Tryz.prog 23 #[.slice none 0 0, .int .i64 k] w fun e w' => e = .returned (.int .i64 k) ∧ w' = w := by
  go_enter Tryz.func23, Tryz.ntmps23
  go_wp2
  go_loop [1, 5] (fun l i => l = .int .i64 k ∧ i = .int .i64 0) (fun _ _ => 0)
  case atStart => exact ⟨rfl, rfl⟩
  case round =>
    obtain ⟨rfl, rfl⟩ := hrel
    go_wp2
    go_ret
    exact ⟨rfl, rfl⟩
set_option maxHeartbeats 1000000 in
theorem markStringS_nil (k : Int) (w : World) : Calls Tryz.prog 51 #[.slice none 0 0, .int .i64 k] w fun e w' => e = .returned (.int .i64 k) ∧ w' = w := by
  go_enter Tryz.func51, Tryz.ntmps51
  go_wp2
  go_loop [1, 5] (fun l i => l = .int .i64 k ∧ i = .int .i64 0) (fun _ _ => 0)
  case atStart => exact ⟨rfl, rfl⟩
  case round =>
    obtain ⟨rfl, rfl⟩ := hrel
    go_wp2
    go_ret
    exact ⟨rfl, rfl⟩
set_option maxHeartbeats 1000000 in
theorem heldStringS_nil (k : Int) (w : World) : Calls Tryz.prog 56 #[.slice none 0 0, .int .i64 k] w fun e w' => e = .returned (.int .i64 k) ∧ w' = w := by
  go_enter Tryz.func56, Tryz.ntmps56
  go_wp2
  go_loop [1, 5] (fun l i => l = .int .i64 k ∧ i = .int .i64 0) (fun _ _ => 0)
  case atStart => exact ⟨rfl, rfl⟩
  case round =>
    obtain ⟨rfl, rfl⟩ := hrel
    go_wp2
    go_ret
    exact ⟨rfl, rfl⟩
set_option maxHeartbeats 1000000 in
theorem markIntS_nil (k : Int) (w : World) : Calls Tryz.prog 52 #[.slice none 0 0, .int .i64 k] w fun e w' => e = .returned (.int .i64 k) ∧ w' = w := by
  go_enter Tryz.func52, Tryz.ntmps52
  go_wp2
  go_loop [1, 5] (fun l i => l = .int .i64 k ∧ i = .int .i64 0) (fun _ _ => 0)
  case atStart => exact ⟨rfl, rfl⟩
  case round =>
    obtain ⟨rfl, rfl⟩ := hrel
    go_wp2
    go_ret
    exact ⟨rfl, rfl⟩
set_option maxHeartbeats 1000000 in
theorem heldIntS_nil (k : Int) (w : World) : Calls Tryz.prog 57 #[.slice none 0 0, .int .i64 k] w fun e w' => e = .returned (.int .i64 k) ∧ w' = w := by
  go_enter Tryz.func57, Tryz.ntmps57
  go_wp2
  go_loop [1, 5] (fun l i => l = .int .i64 k ∧ i = .int .i64 0) (fun _ _ => 0)
  case atStart => exact ⟨rfl, rfl⟩
  case round =>
    obtain ⟨rfl, rfl⟩ := hrel
    go_wp2
    go_ret
    exact ⟨rfl, rfl⟩
set_option maxHeartbeats 1000000 in
theorem markRecAckS_nil (k : Int) (w : World) : Calls Tryz.prog 54 #[.slice none 0 0, .int .i64 k] w fun e w' => e = .returned (.int .i64 k) ∧ w' = w := by
  go_enter Tryz.func54, Tryz.ntmps54
  go_wp2
  go_loop [1, 5] (fun l i => l = .int .i64 k ∧ i = .int .i64 0) (fun _ _ => 0)
  case atStart => exact ⟨rfl, rfl⟩
  case round =>
    obtain ⟨rfl, rfl⟩ := hrel
    go_wp2
    go_ret
    exact ⟨rfl, rfl⟩
set_option maxHeartbeats 1000000 in
theorem heldRecAckS_nil (k : Int) (w : World) : Calls Tryz.prog 59 #[.slice none 0 0, .int .i64 k] w fun e w' => e = .returned (.int .i64 k) ∧ w' = w := by
  go_enter Tryz.func59, Tryz.ntmps59
  go_wp2
  go_loop [1, 5] (fun l i => l = .int .i64 k ∧ i = .int .i64 0) (fun _ _ => 0)
  case atStart => exact ⟨rfl, rfl⟩
  case round =>
    obtain ⟨rfl, rfl⟩ := hrel
    go_wp2
    go_ret
    exact ⟨rfl, rfl⟩
set_option maxHeartbeats 1000000 in
theorem markRecDisk_nil (p q : Int) (k : Int) (w : World) (_h0 : 0 ≤ k) : Calls Tryz.prog 50 #[.agg #[.int .i64 p, .int .i64 q, .slice none 0 0], .int .i64 k] w fun e w' => e = .returned (.int .i64 k) ∧ Below w.heap.size w w' := by
  have HO : ∀ o, Hid (Below w.heap.size w (w.alloc o)) := fun o => one_al w o
  go_enter Tryz.func50, Tryz.ntmps50
  go_wp2_with (go_at_call 53; refine (markRecSlotS_nil _ _).mono ?_; rintro e w' ⟨rfl, rfl⟩)
  go_ret
  exact ⟨rfl, (HO _).out⟩
set_option maxHeartbeats 1000000 in
theorem heldRecDisk_nil (p q : Int) (k : Int) (w : World) (h0 : 0 ≤ k) : Calls Tryz.prog 55 #[.agg #[.int .i64 p, .int .i64 q, .slice none 0 0], .int .i64 k] w fun e w' => e = .returned (.int .i64 k) ∧ Below w.heap.size w w' := by
  have HO : ∀ o, Hid (Below w.heap.size w (w.alloc o)) := fun o => one_al w o
  go_enter Tryz.func55, Tryz.ntmps55
  go_wp2_with (go_at_call 58; refine (heldRecSlotS_nil _ _).mono ?_; rintro e w' ⟨rfl, rfl⟩)
  go_ret
  exact ⟨rfl, (HO _).out⟩
/-- the cells of a recorder with nothing in its lists -/
def nwL (n of : Int) (up : Bool) : List Value := [.int .i64 n, .int .i64 of, .bool up, .int .i64 0, .int .i64 0, .slice none 0 0, .int .i64 0, .int .i64 0, .slice none 0 0, .slice none 0 0, .slice none 0 0, .bool false, .bool false, .int .i64 0, .slice none 0 0, .slice none 0 0, .slice none 0 0, .int .i64 0]
def nwU (n of : Int) (up : Bool) : Rr := ⟨n, of, up, ⟨0, 0, []⟩, ⟨0, 0, []⟩, [], [], false, false, 0, [], [], [], 0⟩
theorem nw_c (n of : Int) (up : Bool) (w : World) : RrC 0 w (nwL n of up) (nwU n of up) :=
  ⟨none, 0, none, 0, none, 0, none, 0, none, 0, none, 0, none, 0, rfl, ⟨Or.inl ⟨none, 0, rfl, rfl⟩, Or.inl ⟨none, 0, rfl, rfl⟩, Or.inl ⟨none, 0, rfl, rfl⟩, Or.inl ⟨none, 0, rfl, rfl⟩, Or.inl ⟨none, 0, rfl, rfl⟩, Or.inl ⟨none, 0, rfl, rfl⟩, Or.inl ⟨none, 0, rfl, rfl⟩⟩⟩
structure NwC (cs : List Value) : Prop where
  z3 : cs[3]? = some (.int .i64 0)
  z4 : cs[4]? = some (.int .i64 0)
  z5 : cs[5]? = some (.slice none 0 0)
  z6 : cs[6]? = some (.int .i64 0)
  z7 : cs[7]? = some (.int .i64 0)
  z8 : cs[8]? = some (.slice none 0 0)
  z9 : cs[9]? = some (.slice none 0 0)
  z10 : cs[10]? = some (.slice none 0 0)
  z14 : cs[14]? = some (.slice none 0 0)
  z15 : cs[15]? = some (.slice none 0 0)
  z16 : cs[16]? = some (.slice none 0 0)
  len : cs.length = 18
theorem nw_nil (n of : Int) (up : Bool) : NwC (nwL n of up) := ⟨rfl, rfl, rfl, rfl, rfl, rfl, rfl, rfl, rfl, rfl, rfl, rfl⟩
set_option maxRecDepth 20000 in
set_option maxHeartbeats 4000000 in
theorem markNew_any (cs : List Value) (h : NwC cs) (k : Int) (w : World) (h0 : 0 ≤ k) : Calls Tryz.prog 14 #[.agg cs.toArray, .int .i64 k] w fun e w' => e = .returned (.int .i64 k) ∧ Below w.heap.size w w' := by
  have HN := hide h
  clear h
  go_enter Tryz.func14, Tryz.ntmps14
  have z3 := HN.out.z3
  have z4 := HN.out.z4
  have z5 := HN.out.z5
  go_wp2_with fail
  generalize hWa : w.alloc _ = Wa
  have HB : Hid (Below w.heap.size w Wa) := by unfold Hid; rw [← hWa]; exact (one_al w _)
  have F : Hid (Box Wa w.heap.size cs.toArray) := by unfold Hid; rw [← hWa]; exact (Box.new _ _ _ _ rfl)
  clear hWa z3 z4 z5
  refine (markRecDisk_nil 0 0 k _ h0).mono ?_
  rintro e w1 ⟨rfl, hb⟩
  replace HB : Hid (Below w.heap.size w w1) := bt HB.out hb
  replace F := hide (F.out.on hb)
  clear hb
  have g6 : w1.cell? ⟨w.heap.size, 6, none⟩ = some (.int .i64 0) := by rw [F.out.cell 6, List.getElem?_toArray]; exact HN.out.z6
  have g7 : w1.cell? ⟨w.heap.size, 7, none⟩ = some (.int .i64 0) := by rw [F.out.cell 7, List.getElem?_toArray]; exact HN.out.z7
  have g8 : w1.cell? ⟨w.heap.size, 8, none⟩ = some (.slice none 0 0) := by rw [F.out.cell 8, List.getElem?_toArray]; exact HN.out.z8
  go_wp2_with fail
  clear g6 g7 g8
  refine (markRecDisk_nil 0 0 k _ h0).mono ?_
  rintro e w2 ⟨rfl, hb⟩
  replace HB : Hid (Below w.heap.size w w2) := bt HB.out hb
  replace F := hide (F.out.on hb)
  clear hb
  have g9 : w2.cell? ⟨w.heap.size, 9, none⟩ = some (.slice none 0 0) := by rw [F.out.cell 9, List.getElem?_toArray]; exact HN.out.z9
  have g10 : w2.cell? ⟨w.heap.size, 10, none⟩ = some (.slice none 0 0) := by rw [F.out.cell 10, List.getElem?_toArray]; exact HN.out.z10
  have g14 : w2.cell? ⟨w.heap.size, 14, none⟩ = some (.slice none 0 0) := by rw [F.out.cell 14, List.getElem?_toArray]; exact HN.out.z14
  have g15 : w2.cell? ⟨w.heap.size, 15, none⟩ = some (.slice none 0 0) := by rw [F.out.cell 15, List.getElem?_toArray]; exact HN.out.z15
  have g16 : w2.cell? ⟨w.heap.size, 16, none⟩ = some (.slice none 0 0) := by rw [F.out.cell 16, List.getElem?_toArray]; exact HN.out.z16
  go_wp2_with (first
    | (go_at_call 22; refine (markRecMessageS_nil _ _).mono ?_; rintro e w' ⟨rfl, rfl⟩)
    | (go_at_call 51; refine (markStringS_nil _ _).mono ?_; rintro e w' ⟨rfl, rfl⟩)
    | (go_at_call 52; refine (markIntS_nil _ _).mono ?_; rintro e w' ⟨rfl, rfl⟩)
    | (go_at_call 53; refine (markRecSlotS_nil _ _).mono ?_; rintro e w' ⟨rfl, rfl⟩)
    | (go_at_call 54; refine (markRecAckS_nil _ _).mono ?_; rintro e w' ⟨rfl, rfl⟩))
  go_ret
  exact ⟨rfl, HB.out⟩
set_option maxRecDepth 20000 in
set_option maxHeartbeats 4000000 in
theorem heldNew_any (cs : List Value) (h : NwC cs) (k : Int) (w : World) (h0 : 0 ≤ k) : Calls Tryz.prog 16 #[.agg cs.toArray, .int .i64 k] w fun e w' => e = .returned (.int .i64 k) ∧ Below w.heap.size w w' := by
  have HN := hide h
  clear h
  go_enter Tryz.func16, Tryz.ntmps16
  have z3 := HN.out.z3
  have z4 := HN.out.z4
  have z5 := HN.out.z5
  go_wp2_with fail
  generalize hWa : w.alloc _ = Wa
  have HB : Hid (Below w.heap.size w Wa) := by unfold Hid; rw [← hWa]; exact (one_al w _)
  have F : Hid (Box Wa w.heap.size cs.toArray) := by unfold Hid; rw [← hWa]; exact (Box.new _ _ _ _ rfl)
  clear hWa z3 z4 z5
  refine (heldRecDisk_nil 0 0 k _ h0).mono ?_
  rintro e w1 ⟨rfl, hb⟩
  replace HB : Hid (Below w.heap.size w w1) := bt HB.out hb
  replace F := hide (F.out.on hb)
  clear hb
  have g6 : w1.cell? ⟨w.heap.size, 6, none⟩ = some (.int .i64 0) := by rw [F.out.cell 6, List.getElem?_toArray]; exact HN.out.z6
  have g7 : w1.cell? ⟨w.heap.size, 7, none⟩ = some (.int .i64 0) := by rw [F.out.cell 7, List.getElem?_toArray]; exact HN.out.z7
  have g8 : w1.cell? ⟨w.heap.size, 8, none⟩ = some (.slice none 0 0) := by rw [F.out.cell 8, List.getElem?_toArray]; exact HN.out.z8
  go_wp2_with fail
  clear g6 g7 g8
  refine (heldRecDisk_nil 0 0 k _ h0).mono ?_
  rintro e w2 ⟨rfl, hb⟩
  replace HB : Hid (Below w.heap.size w w2) := bt HB.out hb
  replace F := hide (F.out.on hb)
  clear hb
  have g9 : w2.cell? ⟨w.heap.size, 9, none⟩ = some (.slice none 0 0) := by rw [F.out.cell 9, List.getElem?_toArray]; exact HN.out.z9
  have g10 : w2.cell? ⟨w.heap.size, 10, none⟩ = some (.slice none 0 0) := by rw [F.out.cell 10, List.getElem?_toArray]; exact HN.out.z10
  have g14 : w2.cell? ⟨w.heap.size, 14, none⟩ = some (.slice none 0 0) := by rw [F.out.cell 14, List.getElem?_toArray]; exact HN.out.z14
  have g15 : w2.cell? ⟨w.heap.size, 15, none⟩ = some (.slice none 0 0) := by rw [F.out.cell 15, List.getElem?_toArray]; exact HN.out.z15
  have g16 : w2.cell? ⟨w.heap.size, 16, none⟩ = some (.slice none 0 0) := by rw [F.out.cell 16, List.getElem?_toArray]; exact HN.out.z16
  go_wp2_with (first
    | (go_at_call 23; refine (heldRecMessageS_nil _ _).mono ?_; rintro e w' ⟨rfl, rfl⟩)
    | (go_at_call 56; refine (heldStringS_nil _ _).mono ?_; rintro e w' ⟨rfl, rfl⟩)
    | (go_at_call 57; refine (heldIntS_nil _ _).mono ?_; rintro e w' ⟨rfl, rfl⟩)
    | (go_at_call 58; refine (heldRecSlotS_nil _ _).mono ?_; rintro e w' ⟨rfl, rfl⟩)
    | (go_at_call 59; refine (heldRecAckS_nil _ _).mono ?_; rintro e w' ⟨rfl, rfl⟩))
  go_ret
  exact ⟨rfl, HB.out⟩
end Go.Proofs.YtfbfgljkiikabaaGreat
