
import Derived.Test.YtdcomaelhpjejaaRN1
namespace Go.Proofs.Ytdcomaelhpjejaa
open Go.RowKit Go.Deep

set_option maxRecDepth 20000 in
set_option maxHeartbeats 16000000 in
theorem law_new (n of : Int) (w : World) :
    Calls Try.prog 4 #[.int .i64 n, .int .i64 of] w fun e w' => e = .returned (.bool true) ∧ Below w.heap.size w w' := by
  obtain ⟨cs, hcs⟩ : ∃ cs, cs = newL n of := ⟨_, rfl⟩
  have HSP : Hid (∀ w, Calls Try.prog 12 #[.int .i64 n, .int .i64 of] w fun e w' => e = .returned (.agg cs.toArray) ∧ Below w.heap.size w w') := by unfold Hid; rw [hcs]; exact specNew_any n of
  have HIM : Hid (∀ w, Calls Try.prog 13 #[.int .i64 n, .int .i64 of] w fun e w' => e = .returned (.agg cs.toArray) ∧ Below w.heap.size w w') := by unfold Hid; rw [hcs]; exact implNew_any n of
  have HC : Hid (∀ w, RrC 0 w cs (newU n of)) := by unfold Hid; rw [hcs]; exact new_c n of
  have HN : Hid (NwC cs) := by unfold Hid; rw [hcs]; exact new_nil n of
  have HZ : Hid ((Try.prog.info? 37).map (·.size) = some cs.length) := by unfold Hid; rw [HN.out.len]; exact sizeRr
  have HZA : Hid ((Try.prog.info? 37).map (·.size) = some cs.toArray.size) := by unfold Hid; rw [List.size_toArray, HN.out.len]; exact sizeRr
  have HON : Hid (cs.toArray.all (·.oneCell') = true) := (HC.out w).one
  have HT : Hid (∀ X : World, (X.alloc (.cells (nwL 0 0 false).toArray 37)).there X.heap.size 0 cs.toArray.size) := fun X => by rw [show cs.toArray.size = 18 from HN.out.len]; exact there_made _ _ _ _ rfl
  have HBX : Hid (∀ X : World, Box ((X.alloc (.cells (nwL 0 0 false).toArray 37)).setCells X.heap.size 0 cs.toArray.toList) X.heap.size cs.toArray) := fun X => (Box.new _ _ _ _ rfl).full (by rw [show cs.toArray.size = 18 from HN.out.len]; rfl)
  clear hcs
  go_enter Try.func4, Try.ntmps4
  go_wp2_with fail
  have HB : Hid (Below w.heap.size w w) := Below.refl _ _
  refine (HSP.out _).mono ?_
  rintro e a1 ⟨rfl, hb⟩
  replace HB : Hid (Below w.heap.size w a1) := bt HB.out hb
  clear hb
  go_wp2_with (with_reducible refine wpList_store_mid (by with_reducible rfl) 37 (.tmp 5) (.tmp 12) (by with_reducible rfl) a1.heap.size 0 cs.toArray (by with_unfolding_all rfl) (by with_unfolding_all rfl) (HT.out _) HZA.out HON.out ?_; refine Hid.out ?_)
  generalize hW : World.setCells _ _ _ _ = W1
  have F5n : Hid (Box W1 a1.heap.size cs.toArray) := by unfold Hid; rw [← hW]; exact HBX.out _
  have hb : Below a1.heap.size a1 W1 := by rw [← hW]; exact Below.sets (Nat.le_refl _) _ _ (one_al _ _)
  clear hW
  replace HB : Hid (Below w.heap.size w W1) := bt HB.out hb
  clear hb
  have F5 := F5n
  clear F5n
  refine hide ?_
  go_wp2_with fail
  refine (HIM.out _).mono ?_
  rintro e a2 ⟨rfl, hb⟩
  replace HB : Hid (Below w.heap.size w a2) := bt HB.out hb
  replace F5 := hide (F5.out.on hb)
  clear hb
  go_wp2_with (with_reducible refine wpList_store_mid (by with_reducible rfl) 37 (.tmp 6) (.tmp 15) (by with_reducible rfl) a2.heap.size 0 cs.toArray (by with_unfolding_all rfl) (by with_unfolding_all rfl) (HT.out _) HZA.out HON.out ?_; refine Hid.out ?_)
  generalize hW : World.setCells _ _ _ _ = W2
  have F6n : Hid (Box W2 a2.heap.size cs.toArray) := by unfold Hid; rw [← hW]; exact HBX.out _
  have hb : Below a2.heap.size a2 W2 := by rw [← hW]; exact Below.sets (Nat.le_refl _) _ _ (one_al _ _)
  clear hW
  replace HB : Hid (Below w.heap.size w W2) := bt HB.out hb
  replace F5 := hide (F5.out.on hb)
  clear hb
  have F6 := F6n
  clear F6n
  refine hide ?_
  go_wp2_with (first | (with_reducible refine wpList_load_mid (by with_reducible rfl) 37 (.tmp 6) (by with_reducible rfl) a2.heap.size 0 (by with_unfolding_all rfl) cs _ (F6.out.range rfl) Try.underlying37 (by with_unfolding_all rfl) HZ.out ?_) | (with_reducible refine wpList_load_mid (by with_reducible rfl) 37 (.tmp 5) (by with_reducible rfl) a1.heap.size 0 (by with_unfolding_all rfl) cs _ (F5.out.range rfl) Try.underlying37 (by with_unfolding_all rfl) HZ.out ?_))
  refine (eqRr_c 0 0 cs cs (newU n of) _ (HC.out _) (HC.out _)).mono ?_
  rintro e a3 ⟨rfl, hb⟩
  replace HB : Hid (Below w.heap.size w a3) := bt HB.out hb
  replace F5 := hide (F5.out.on hb)
  replace F6 := hide (F6.out.on hb)
  clear hb
  go_wp2_with (with_reducible refine wpList_load_mid (by with_reducible rfl) 37 (.tmp 6) (by with_reducible rfl) a2.heap.size 0 (by with_unfolding_all rfl) cs _ (F6.out.range rfl) Try.underlying37 (by with_unfolding_all rfl) HZ.out ?_)
  refine (markNew_any cs HN.out 1 _ (by omega)).mono ?_
  rintro e a4 ⟨rfl, hb⟩
  replace HB : Hid (Below w.heap.size w a4) := bt HB.out hb
  replace F5 := hide (F5.out.on hb)
  replace F6 := hide (F6.out.on hb)
  clear hb
  go_wp2_with (with_reducible refine wpList_load_mid (by with_reducible rfl) 37 (.tmp 6) (by with_reducible rfl) a2.heap.size 0 (by with_unfolding_all rfl) cs _ (F6.out.range rfl) Try.underlying37 (by with_unfolding_all rfl) HZ.out ?_)
  refine (heldNew_any cs HN.out 1 _ (by omega)).mono ?_
  rintro e a5 ⟨rfl, hb⟩
  replace HB : Hid (Below w.heap.size w a5) := bt HB.out hb
  replace F5 := hide (F5.out.on hb)
  replace F6 := hide (F6.out.on hb)
  clear hb
  go_wp2_with fail
  refine (HIM.out _).mono ?_
  rintro e a6 ⟨rfl, hb⟩
  replace HB : Hid (Below w.heap.size w a6) := bt HB.out hb
  replace F5 := hide (F5.out.on hb)
  replace F6 := hide (F6.out.on hb)
  clear hb
  go_wp2_with (with_reducible refine wpList_store_mid (by with_reducible rfl) 37 (.tmp 9) (.tmp 33) (by with_reducible rfl) a6.heap.size 0 cs.toArray (by with_unfolding_all rfl) (by with_unfolding_all rfl) (HT.out _) HZA.out HON.out ?_; refine Hid.out ?_)
  generalize hW : World.setCells _ _ _ _ = W6
  have F9n : Hid (Box W6 a6.heap.size cs.toArray) := by unfold Hid; rw [← hW]; exact HBX.out _
  have hb : Below a6.heap.size a6 W6 := by rw [← hW]; exact Below.sets (Nat.le_refl _) _ _ (one_al _ _)
  clear hW
  replace HB : Hid (Below w.heap.size w W6) := bt HB.out hb
  replace F5 := hide (F5.out.on hb)
  replace F6 := hide (F6.out.on hb)
  clear hb
  have F9 := F9n
  clear F9n
  refine hide ?_
  go_wp2_with (first | (with_reducible refine wpList_load_mid (by with_reducible rfl) 37 (.tmp 9) (by with_reducible rfl) a6.heap.size 0 (by with_unfolding_all rfl) cs _ (F9.out.range rfl) Try.underlying37 (by with_unfolding_all rfl) HZ.out ?_) | (with_reducible refine wpList_load_mid (by with_reducible rfl) 37 (.tmp 5) (by with_reducible rfl) a1.heap.size 0 (by with_unfolding_all rfl) cs _ (F5.out.range rfl) Try.underlying37 (by with_unfolding_all rfl) HZ.out ?_))
  refine (eqRr_c 0 0 cs cs (newU n of) _ (HC.out _) (HC.out _)).mono ?_
  rintro e a7 ⟨rfl, hb⟩
  replace HB : Hid (Below w.heap.size w a7) := bt HB.out hb
  replace F5 := hide (F5.out.on hb)
  replace F6 := hide (F6.out.on hb)
  replace F9 := hide (F9.out.on hb)
  clear hb
  go_wp2_with (with_reducible refine wpList_load_mid (by with_reducible rfl) 37 (.tmp 6) (by with_reducible rfl) a2.heap.size 0 (by with_unfolding_all rfl) cs _ (F6.out.range rfl) Try.underlying37 (by with_unfolding_all rfl) HZ.out ?_)
  refine (heldNew_any cs HN.out 1 _ (by omega)).mono ?_
  rintro e a8 ⟨rfl, hb⟩
  replace HB : Hid (Below w.heap.size w a8) := bt HB.out hb
  replace F5 := hide (F5.out.on hb)
  replace F6 := hide (F6.out.on hb)
  replace F9 := hide (F9.out.on hb)
  clear hb
  go_wp2
  go_ret
  exact ⟨rfl, HB.out⟩
end Go.Proofs.Ytdcomaelhpjejaa
