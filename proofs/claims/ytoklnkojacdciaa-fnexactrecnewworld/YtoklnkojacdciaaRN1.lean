
import Derived.Test.YtoklnkojacdciaaRN0
import Derived.Test.YtoklnkojacdciaaRPn
namespace Go.Proofs.Ytoklnkojacdciaa
open Go.RowKit Go.Deep

def newB (n of : Int) : Bool := inB 1 5 of && inB 1 of n
def newL (n of : Int) : List Value := if newB n of then nwL n of true else nwL 0 0 false
def newU (n of : Int) : Rr := if newB n of then nwU n of true else nwU 0 0 false
theorem new_c (n of : Int) (w : World) : RrC 0 w (newL n of) (newU n of) := by
  unfold newL newU
  split
  · exact nw_c _ _ _ _
  · exact nw_c _ _ _ _
theorem new_nil (n of : Int) : NwC (newL n of) := by
  unfold newL
  split
  · exact nw_nil _ _ _
  · exact nw_nil _ _ _
theorem nw_one (n of : Int) (up : Bool) : Array.all (nwL n of up).toArray (·.oneCell') = true := by simp [nwL, Value.oneCell']
theorem infoRr : (Try.prog.info? 51).map (fun i => (i.zero, i.size)) = some (some (.agg (nwL 0 0 false).toArray), 18) := by kernel_rfl

set_option maxRecDepth 20000 in
set_option maxHeartbeats 8000000 in
theorem specNew_any (n of : Int) (w : World) : Calls Try.prog 21 #[.int .i64 n, .int .i64 of] w fun e w' => e = .returned (.agg (newL n of).toArray) ∧ Below w.heap.size w w' := by
  cases h1 : inB 1 5 of with
  | false =>
    have HL : Hid (newL n of = nwL 0 0 false) := by unfold Hid newL newB; rw [h1]; rfl
    go_enter Try.func21, Try.ntmps21
    go_wp2_with (first | (go_at_call 20; refine (in21_any _ _ _ _).mono ?_; rintro e w' ⟨rfl, rfl⟩) | (with_reducible refine wpList_store_mid (by with_reducible rfl) 51 (.tmp 4) (.tmp 14) (by with_reducible rfl) w.heap.size 0 (nwL 0 0 false).toArray (by with_unfolding_all rfl) (by with_unfolding_all rfl) (there_made _ _ _ _ (by with_unfolding_all rfl)) (by with_unfolding_all exact sizeRr) (nw_one _ _ _) ?_; refine Hid.out ?_))
    generalize hW : World.setCells _ _ _ _ = W9
    have F9 : Hid (Box W9 w.heap.size (nwL 0 0 false).toArray) := by unfold Hid; rw [← hW]; exact (Box.new _ _ _ _ rfl).full rfl
    have HB9 : Hid (Below w.heap.size w W9) := by unfold Hid; rw [← hW]; exact Below.sets (Nat.le_refl _) _ _ (one_al _ _)
    clear hW
    refine hide ?_
    go_wp2
    exact bodyPost_ret (v := .agg (nwL 0 0 false).toArray) (res_rr (p := 4) (ty := 51) Try.results21 _ _ w.heap.size 0 (nwL 0 0 false) _ rfl (F9.out.range rfl) Try.underlying51 rfl sizeRr) rfl ⟨by rw [HL.out], HB9.out⟩
  | true =>
  cases h2 : inB 1 of n with
  | false =>
    have HL : Hid (newL n of = nwL 0 0 false) := by unfold Hid newL newB; rw [h1, h2]; rfl
    go_enter Try.func21, Try.ntmps21
    go_wp2_with (first | (go_at_call 20; refine (in21_any _ _ _ _).mono ?_; rintro e w' ⟨rfl, rfl⟩) | (with_reducible refine wpList_store_mid (by with_reducible rfl) 51 (.tmp 4) (.tmp 14) (by with_reducible rfl) w.heap.size 0 (nwL 0 0 false).toArray (by with_unfolding_all rfl) (by with_unfolding_all rfl) (there_made _ _ _ _ (by with_unfolding_all rfl)) (by with_unfolding_all exact sizeRr) (nw_one _ _ _) ?_; refine Hid.out ?_))
    generalize hW : World.setCells _ _ _ _ = W9
    have F9 : Hid (Box W9 w.heap.size (nwL 0 0 false).toArray) := by unfold Hid; rw [← hW]; exact (Box.new _ _ _ _ rfl).full rfl
    have HB9 : Hid (Below w.heap.size w W9) := by unfold Hid; rw [← hW]; exact Below.sets (Nat.le_refl _) _ _ (one_al _ _)
    clear hW
    refine hide ?_
    go_wp2
    exact bodyPost_ret (v := .agg (nwL 0 0 false).toArray) (res_rr (p := 4) (ty := 51) Try.results21 _ _ w.heap.size 0 (nwL 0 0 false) _ rfl (F9.out.range rfl) Try.underlying51 rfl sizeRr) rfl ⟨by rw [HL.out], HB9.out⟩
  | true =>
    have HL : Hid (newL n of = nwL n of true) := by unfold Hid newL newB; rw [h1, h2]; rfl
    go_enter Try.func21, Try.ntmps21
    go_wp2_with (first | (go_at_call 20; refine (in21_any _ _ _ _).mono ?_; rintro e w' ⟨rfl, rfl⟩) | (with_reducible refine wpList_store_mid (by with_reducible rfl) 51 (.tmp 4) (.tmp 17) (by with_reducible rfl) w.heap.size 0 (nwL n of true).toArray (by with_unfolding_all rfl) (by with_unfolding_all rfl) (there_made _ _ _ _ (by with_unfolding_all rfl)) (by with_unfolding_all exact sizeRr) (nw_one _ _ _) ?_; refine Hid.out ?_))
    generalize hW : World.setCells _ _ _ _ = W9
    have F9 : Hid (Box W9 w.heap.size (nwL n of true).toArray) := by unfold Hid; rw [← hW]; exact (Box.new _ _ _ _ rfl).full rfl
    have HB9 : Hid (Below w.heap.size w W9) := by unfold Hid; rw [← hW]; exact Below.sets (Nat.le_refl _) _ _ (one_al _ _)
    clear hW
    refine hide ?_
    go_wp2
    exact bodyPost_ret (v := .agg (nwL n of true).toArray) (res_rr (p := 4) (ty := 51) Try.results21 _ _ w.heap.size 0 (nwL n of true) _ rfl (F9.out.range rfl) Try.underlying51 rfl sizeRr) rfl ⟨by rw [HL.out], HB9.out⟩

set_option maxRecDepth 20000 in
set_option maxHeartbeats 8000000 in
theorem implNew_any (n of : Int) (w : World) : Calls Try.prog 23 #[.int .i64 n, .int .i64 of] w fun e w' => e = .returned (.agg (newL n of).toArray) ∧ Below w.heap.size w w' := by
  cases h1 : (inB 1 5 of && inB 1 of n) with
  | false =>
    have HL : Hid (newL n of = nwL 0 0 false) := by unfold Hid newL newB; rw [h1]; rfl
    go_enter Try.func23, Try.ntmps23
    go_wp2_with (first | (go_at_call 51; refine (numberI_any _ _ _).mono ?_; rw [h1]; rintro e w' ⟨rfl, rfl⟩) | (with_reducible refine wpList_store_mid (by with_reducible rfl) 51 (.tmp 4) (.tmp 9) (by with_reducible rfl) w.heap.size 0 (nwL 0 0 false).toArray (by with_unfolding_all rfl) (by with_unfolding_all rfl) (there_made _ _ _ _ (by with_unfolding_all rfl)) (by with_unfolding_all exact sizeRr) (nw_one _ _ _) ?_; refine Hid.out ?_))
    generalize hW : World.setCells _ _ _ _ = W9
    have F9 : Hid (Box W9 w.heap.size (nwL 0 0 false).toArray) := by unfold Hid; rw [← hW]; exact (Box.new _ _ _ _ rfl).full rfl
    have HB9 : Hid (Below w.heap.size w W9) := by unfold Hid; rw [← hW]; exact Below.sets (Nat.le_refl _) _ _ (one_al _ _)
    clear hW
    refine hide ?_
    go_wp2
    exact bodyPost_ret (v := .agg (nwL 0 0 false).toArray) (res_rr (p := 4) (ty := 51) Try.results23 _ _ w.heap.size 0 (nwL 0 0 false) _ rfl (F9.out.range rfl) Try.underlying51 rfl sizeRr) rfl ⟨by rw [HL.out], HB9.out⟩
  | true =>
    have HL : Hid (newL n of = nwL n of true) := by unfold Hid newL newB; rw [h1]; rfl
    go_enter Try.func23, Try.ntmps23
    go_wp2_with (first | (go_at_call 51; refine (numberI_any _ _ _).mono ?_; rw [h1]; rintro e w' ⟨rfl, rfl⟩) | (with_reducible refine wpList_store_mid (by with_reducible rfl) 51 (.tmp 4) (.tmp 12) (by with_reducible rfl) w.heap.size 0 (nwL n of true).toArray (by with_unfolding_all rfl) (by with_unfolding_all rfl) (there_made _ _ _ _ (by with_unfolding_all rfl)) (by with_unfolding_all exact sizeRr) (nw_one _ _ _) ?_; refine Hid.out ?_))
    generalize hW : World.setCells _ _ _ _ = W9
    have F9 : Hid (Box W9 w.heap.size (nwL n of true).toArray) := by unfold Hid; rw [← hW]; exact (Box.new _ _ _ _ rfl).full rfl
    have HB9 : Hid (Below w.heap.size w W9) := by unfold Hid; rw [← hW]; exact Below.sets (Nat.le_refl _) _ _ (one_al _ _)
    clear hW
    refine hide ?_
    go_wp2
    exact bodyPost_ret (v := .agg (nwL n of true).toArray) (res_rr (p := 4) (ty := 51) Try.results23 _ _ w.heap.size 0 (nwL n of true) _ rfl (F9.out.range rfl) Try.underlying51 rfl sizeRr) rfl ⟨by rw [HL.out], HB9.out⟩
end Go.Proofs.Ytoklnkojacdciaa
