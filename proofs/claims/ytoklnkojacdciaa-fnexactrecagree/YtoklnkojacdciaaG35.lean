import Derived.Test.YtoklnkojacdciaaG33
namespace Go.Proofs.Ytoklnkojacdciaa
open Go.RowKit Go.Deep

theorem nil_try (u : World) : Sem.run Try.prog (nilAhead 277 157 (.agg #[]) "loop.example/wharfhall/impl.sound") u = .ok (some false) u := by kernel_rfl
theorem met_try (u : World) : Sem.run Try.prog (method 277 157 (.agg #[]) "loop.example/wharfhall/impl.sound") u = .ok (137, .agg #[]) u := by kernel_rfl

set_option maxRecDepth 20000 in
set_option maxHeartbeats 16000000 in
theorem valid_try (lo : Nat) (cs : List Value) (U : Rr) (w : World) (h : RrC lo w cs U) (h1 : (inB 1 5 U.of && inB 1 U.of U.nu) = true) (h2 : (diskB U.sf) = true) (h3 : (diskB U.dk) = true) (h4 : (decide (U.he.length ≤ 400) && (List.range U.he.length).all (heldB U)) = true) (h5 : (wishB U.wi) = true) (h6 : (inB 0 1000000 U.hd) = true) (h7 : (numsB U.of U.ye) = true) (h8 : (slotsB U.be) = true) (h9 : (acksB U.of U.ac) = true)
    (ql : U.ld = false) (qt : U.ty = true) :
    Calls Try.prog 76 #[.agg cs.toArray] w fun e w' => e = .returned (.bool (validI U)) ∧ Below w.heap.size w w' := by
  have HS : Hid (soundB U = tryS U) := by unfold Hid soundB; rw [ql, qt]; rfl
  have HRO : Hid (Ending.returned (roleV U) = .returned (.iface 157 (.agg #[]))) := by unfold Hid roleV; rw [ql, qt]; rfl
  have hna := nil_try
  have hme := met_try
  have HC := hide h
  obtain ⟨a0, k0, a1, k1, a2, k2, a3, k3, a4, k4, a5, k5, a6, k6, hcs, h⟩ := h
  have HL := hide h
  have c0 : cs[0]? = some (.int .i64 U.nu) := by rw [hcs]; rfl
  have c1 : cs[1]? = some (.int .i64 U.of) := by rw [hcs]; rfl
  have c2 : cs[2]? = some (.bool U.up) := by rw [hcs]; rfl
  have c3 : cs[3]? = some (.int .i64 U.sf.pr) := by rw [hcs]; rfl
  have c4 : cs[4]? = some (.int .i64 U.sf.kn) := by rw [hcs]; rfl
  have c5 : cs[5]? = some (.slice a0 U.sf.sl.length k0) := by rw [hcs]; rfl
  have c6 : cs[6]? = some (.int .i64 U.dk.pr) := by rw [hcs]; rfl
  have c7 : cs[7]? = some (.int .i64 U.dk.kn) := by rw [hcs]; rfl
  have c8 : cs[8]? = some (.slice a1 U.dk.sl.length k1) := by rw [hcs]; rfl
  have c10 : cs[10]? = some (.slice a3 U.wi.length k3) := by rw [hcs]; rfl
  have c14 : cs[14]? = some (.slice a4 U.ye.length k4) := by rw [hcs]; rfl
  have c15 : cs[15]? = some (.slice a5 U.be.length k5) := by rw [hcs]; rfl
  have c16 : cs[16]? = some (.slice a6 U.ac.length k6) := by rw [hcs]; rfl
  have c17 : cs[17]? = some (.int .i64 U.hd) := by rw [hcs]; rfl
  clear h hcs
  have HE : Hid (validI U = ((inB 1 5 U.of && inB 1 U.of U.nu) && (diskB U.sf && (diskB U.dk && ((decide (U.he.length ≤ 400) && (List.range U.he.length).all (heldB U)) && (wishB U.wi && (inB 0 1000000 U.hd && (numsB U.of U.ye && (slotsB U.be && (acksB U.of U.ac && (soundB U && (U.up || stillB U)))))))))))) := rfl
  have HZ : Hid ((Try.prog.info? 51).map (·.size) = some cs.length) := by unfold Hid; rw [HC.out.len]; exact sizeRr
  go_enter Try.func76, Try.ntmps76
  go_wp2_with fail
  generalize hWa : w.alloc _ = Wa
  have HB : Hid (Below w.heap.size w Wa) := by unfold Hid; rw [← hWa]; exact (one_al w _)
  have F : Hid (Box Wa w.heap.size cs.toArray) := by unfold Hid; rw [← hWa]; exact (Box.new _ _ _ _ rfl)
  clear hWa
  have xn : Nonempty (In (Up Wa)) := ⟨⟨Wa, Below.refl _ _⟩⟩
  have xs := fun (X : In (Up Wa)) => in_self X
  have x0 : ∀ X : In (Up Wa), X.w.cell? ⟨w.heap.size, 0, none⟩ = some (.int .i64 U.nu) := fun X => Up.cell X (by rw [F.out.cell 0, List.getElem?_toArray]; exact c0)
  have x1 : ∀ X : In (Up Wa), X.w.cell? ⟨w.heap.size, 1, none⟩ = some (.int .i64 U.of) := fun X => Up.cell X (by rw [F.out.cell 1, List.getElem?_toArray]; exact c1)
  have x2 : ∀ X : In (Up Wa), X.w.cell? ⟨w.heap.size, 2, none⟩ = some (.bool U.up) := fun X => Up.cell X (by rw [F.out.cell 2, List.getElem?_toArray]; exact c2)
  have x3 : ∀ X : In (Up Wa), X.w.cell? ⟨w.heap.size, 3, none⟩ = some (.int .i64 U.sf.pr) := fun X => Up.cell X (by rw [F.out.cell 3, List.getElem?_toArray]; exact c3)
  have x4 : ∀ X : In (Up Wa), X.w.cell? ⟨w.heap.size, 4, none⟩ = some (.int .i64 U.sf.kn) := fun X => Up.cell X (by rw [F.out.cell 4, List.getElem?_toArray]; exact c4)
  have x5 : ∀ X : In (Up Wa), X.w.cell? ⟨w.heap.size, 5, none⟩ = some (.slice a0 U.sf.sl.length k0) := fun X => Up.cell X (by rw [F.out.cell 5, List.getElem?_toArray]; exact c5)
  have x6 : ∀ X : In (Up Wa), X.w.cell? ⟨w.heap.size, 6, none⟩ = some (.int .i64 U.dk.pr) := fun X => Up.cell X (by rw [F.out.cell 6, List.getElem?_toArray]; exact c6)
  have x7 : ∀ X : In (Up Wa), X.w.cell? ⟨w.heap.size, 7, none⟩ = some (.int .i64 U.dk.kn) := fun X => Up.cell X (by rw [F.out.cell 7, List.getElem?_toArray]; exact c7)
  have x8 : ∀ X : In (Up Wa), X.w.cell? ⟨w.heap.size, 8, none⟩ = some (.slice a1 U.dk.sl.length k1) := fun X => Up.cell X (by rw [F.out.cell 8, List.getElem?_toArray]; exact c8)
  have x10 : ∀ X : In (Up Wa), X.w.cell? ⟨w.heap.size, 10, none⟩ = some (.slice a3 U.wi.length k3) := fun X => Up.cell X (by rw [F.out.cell 10, List.getElem?_toArray]; exact c10)
  have x14 : ∀ X : In (Up Wa), X.w.cell? ⟨w.heap.size, 14, none⟩ = some (.slice a4 U.ye.length k4) := fun X => Up.cell X (by rw [F.out.cell 14, List.getElem?_toArray]; exact c14)
  have x15 : ∀ X : In (Up Wa), X.w.cell? ⟨w.heap.size, 15, none⟩ = some (.slice a5 U.be.length k5) := fun X => Up.cell X (by rw [F.out.cell 15, List.getElem?_toArray]; exact c15)
  have x16 : ∀ X : In (Up Wa), X.w.cell? ⟨w.heap.size, 16, none⟩ = some (.slice a6 U.ac.length k6) := fun X => Up.cell X (by rw [F.out.cell 16, List.getElem?_toArray]; exact c16)
  have x17 : ∀ X : In (Up Wa), X.w.cell? ⟨w.heap.size, 17, none⟩ = some (.int .i64 U.hd) := fun X => Up.cell X (by rw [F.out.cell 17, List.getElem?_toArray]; exact c17)
  clear c0 c1 c2 c3 c4 c5 c6 c7 c8 c10 c14 c15 c16 c17
  cases h10 : tryS U with
  | false =>
    refine wp_region_class (Up Wa) (by kernel_rfl) (by kernel_rfl) ((Below.refl _ _).drew) ?_
    repeat (first
      | (with_reducible refine wpQuiet_load_mid ?_ 51 (.tmp 1) (by with_reducible rfl) w.heap.size 0 (by with_unfolding_all rfl) cs _ (fun W hW => by obtain ⟨X, rfl⟩ := hW; exact (F.out.on X.h).range rfl) Try.underlying51 (by with_unfolding_all rfl) HZ.out ?_
         · with_unfolding_all rfl
         simp only [Act.put, List.setIfInBounds_toArray, List.set_cons_zero, List.set_cons_succ])
      | go_big_quiet_step (first
          | (go_at_call 51; rename_i Y; exact (numberI_any _ _ _).mono fun _ _ h => ⟨h.1.trans (rb h1), Up.same Y h.2⟩)
          | (go_at_call_of 98 (Value.agg #[.int .i64 U.sf.pr, .int .i64 U.sf.kn, .slice a0 U.sf.sl.length k0]); rename_i Y; exact (implDisk_any lo _ U.sf _ ⟨_, _, rfl, ⟨((HL.out.below (bt HB.out Y.h)).l0)⟩⟩).mono fun _ _ h => ⟨h.1.trans (rb h2), Up.next Y h.2⟩)
          | (go_at_call_of 98 (Value.agg #[.int .i64 U.dk.pr, .int .i64 U.dk.kn, .slice a1 U.dk.sl.length k1]); rename_i Y; exact (implDisk_any lo _ U.dk _ ⟨_, _, rfl, ⟨((HL.out.below (bt HB.out Y.h)).l1)⟩⟩).mono fun _ _ h => ⟨h.1.trans (rb h3), Up.next Y h.2⟩)
          | (go_at_call 99; rename_i Y; exact (heldI_any lo cs U _ (HC.out.below (bt HB.out Y.h))).mono fun _ _ h => ⟨h.1.trans (rb h4), Up.next Y h.2⟩)
          | (go_at_call 100; rename_i Y; exact (wishesI_any lo _ U.wi _ ((HL.out.below (bt HB.out Y.h)).l3)).mono fun _ _ h => ⟨h.1.trans (rb h5), Up.same Y h.2⟩)
          | (go_at_call 22; rename_i Y; exact (within_any _ _ _ _).mono fun _ _ h => ⟨h.1.trans (rb h6), Up.same Y h.2⟩)
          | (go_at_call 101; rename_i Y; exact (numbersI_any lo _ U.ye U.of _ ((HL.out.below (bt HB.out Y.h)).l4)).mono fun _ _ h => ⟨h.1.trans (rb h7), Up.same Y h.2⟩)
          | (go_at_call 102; rename_i Y; exact (slotsI_any lo _ U.be _ ((HL.out.below (bt HB.out Y.h)).l5)).mono fun _ _ h => ⟨h.1.trans (rb h8), Up.next Y h.2⟩)
          | (go_at_call 103; rename_i Y; exact (acksI_any lo _ U.ac U.of _ ((HL.out.below (bt HB.out Y.h)).l6)).mono fun _ _ h => ⟨h.1.trans (rb h9), Up.next Y h.2⟩)
          | (go_at_call 104; rename_i Y; exact (roleI_any lo cs U _ (HC.out.below (bt HB.out Y.h))).mono fun _ _ h => ⟨h.1.trans HRO.out, Up.next Y h.2⟩)
          | (go_at_call 137; rename_i Y; exact (tryI_any lo cs U _ (HC.out.below (bt HB.out Y.h))).mono fun _ _ h => ⟨h.1.trans (rb h10), Up.next Y h.2⟩)))
    refine wpQuiet_nil ?_
    intro wn hw
    obtain ⟨X, hX⟩ := hw
    have HWN : Hid (Below Wa.heap.size Wa wn) := by unfold Hid; rw [hX]; exact X.h
    clear hX X x0 x1 x2 x3 x4 x5 x6 x7 x8 x10 x14 x15 x16 x17 xs xn
    go_wp2
    go_ret
    exact ⟨ret_bool (by rw [HE.out, h1, h2, h3, h4, h5, h6, h7, h8, h9, HS.out, h10]; rfl), bt HB.out HWN.out⟩
  | true =>
  cases h11 : U.up with
  | true =>
    rw [h11] at x2
    refine wp_region_class (Up Wa) (by kernel_rfl) (by kernel_rfl) ((Below.refl _ _).drew) ?_
    repeat (first
      | (with_reducible refine wpQuiet_load_mid ?_ 51 (.tmp 1) (by with_reducible rfl) w.heap.size 0 (by with_unfolding_all rfl) cs _ (fun W hW => by obtain ⟨X, rfl⟩ := hW; exact (F.out.on X.h).range rfl) Try.underlying51 (by with_unfolding_all rfl) HZ.out ?_
         · with_unfolding_all rfl
         simp only [Act.put, List.setIfInBounds_toArray, List.set_cons_zero, List.set_cons_succ])
      | go_big_quiet_step (first
          | (go_at_call 51; rename_i Y; exact (numberI_any _ _ _).mono fun _ _ h => ⟨h.1.trans (rb h1), Up.same Y h.2⟩)
          | (go_at_call_of 98 (Value.agg #[.int .i64 U.sf.pr, .int .i64 U.sf.kn, .slice a0 U.sf.sl.length k0]); rename_i Y; exact (implDisk_any lo _ U.sf _ ⟨_, _, rfl, ⟨((HL.out.below (bt HB.out Y.h)).l0)⟩⟩).mono fun _ _ h => ⟨h.1.trans (rb h2), Up.next Y h.2⟩)
          | (go_at_call_of 98 (Value.agg #[.int .i64 U.dk.pr, .int .i64 U.dk.kn, .slice a1 U.dk.sl.length k1]); rename_i Y; exact (implDisk_any lo _ U.dk _ ⟨_, _, rfl, ⟨((HL.out.below (bt HB.out Y.h)).l1)⟩⟩).mono fun _ _ h => ⟨h.1.trans (rb h3), Up.next Y h.2⟩)
          | (go_at_call 99; rename_i Y; exact (heldI_any lo cs U _ (HC.out.below (bt HB.out Y.h))).mono fun _ _ h => ⟨h.1.trans (rb h4), Up.next Y h.2⟩)
          | (go_at_call 100; rename_i Y; exact (wishesI_any lo _ U.wi _ ((HL.out.below (bt HB.out Y.h)).l3)).mono fun _ _ h => ⟨h.1.trans (rb h5), Up.same Y h.2⟩)
          | (go_at_call 22; rename_i Y; exact (within_any _ _ _ _).mono fun _ _ h => ⟨h.1.trans (rb h6), Up.same Y h.2⟩)
          | (go_at_call 101; rename_i Y; exact (numbersI_any lo _ U.ye U.of _ ((HL.out.below (bt HB.out Y.h)).l4)).mono fun _ _ h => ⟨h.1.trans (rb h7), Up.same Y h.2⟩)
          | (go_at_call 102; rename_i Y; exact (slotsI_any lo _ U.be _ ((HL.out.below (bt HB.out Y.h)).l5)).mono fun _ _ h => ⟨h.1.trans (rb h8), Up.next Y h.2⟩)
          | (go_at_call 103; rename_i Y; exact (acksI_any lo _ U.ac U.of _ ((HL.out.below (bt HB.out Y.h)).l6)).mono fun _ _ h => ⟨h.1.trans (rb h9), Up.next Y h.2⟩)
          | (go_at_call 104; rename_i Y; exact (roleI_any lo cs U _ (HC.out.below (bt HB.out Y.h))).mono fun _ _ h => ⟨h.1.trans HRO.out, Up.next Y h.2⟩)
          | (go_at_call 137; rename_i Y; exact (tryI_any lo cs U _ (HC.out.below (bt HB.out Y.h))).mono fun _ _ h => ⟨h.1.trans (rb h10), Up.next Y h.2⟩)))
    refine wpQuiet_nil ?_
    intro wn hw
    obtain ⟨X, hX⟩ := hw
    have HWN : Hid (Below Wa.heap.size Wa wn) := by unfold Hid; rw [hX]; exact X.h
    clear hX X x0 x1 x2 x3 x4 x5 x6 x7 x8 x10 x14 x15 x16 x17 xs xn
    go_wp2
    go_ret
    exact ⟨ret_bool (by rw [HE.out, h1, h2, h3, h4, h5, h6, h7, h8, h9, HS.out, h10, h11]; rfl), bt HB.out HWN.out⟩
  | false =>
    rw [h11] at x2
    refine wp_region_class (Up Wa) (by kernel_rfl) (by kernel_rfl) ((Below.refl _ _).drew) ?_
    repeat (first
      | (with_reducible refine wpQuiet_load_mid ?_ 51 (.tmp 1) (by with_reducible rfl) w.heap.size 0 (by with_unfolding_all rfl) cs _ (fun W hW => by obtain ⟨X, rfl⟩ := hW; exact (F.out.on X.h).range rfl) Try.underlying51 (by with_unfolding_all rfl) HZ.out ?_
         · with_unfolding_all rfl
         simp only [Act.put, List.setIfInBounds_toArray, List.set_cons_zero, List.set_cons_succ])
      | go_big_quiet_step (first
          | (go_at_call 51; rename_i Y; exact (numberI_any _ _ _).mono fun _ _ h => ⟨h.1.trans (rb h1), Up.same Y h.2⟩)
          | (go_at_call_of 98 (Value.agg #[.int .i64 U.sf.pr, .int .i64 U.sf.kn, .slice a0 U.sf.sl.length k0]); rename_i Y; exact (implDisk_any lo _ U.sf _ ⟨_, _, rfl, ⟨((HL.out.below (bt HB.out Y.h)).l0)⟩⟩).mono fun _ _ h => ⟨h.1.trans (rb h2), Up.next Y h.2⟩)
          | (go_at_call_of 98 (Value.agg #[.int .i64 U.dk.pr, .int .i64 U.dk.kn, .slice a1 U.dk.sl.length k1]); rename_i Y; exact (implDisk_any lo _ U.dk _ ⟨_, _, rfl, ⟨((HL.out.below (bt HB.out Y.h)).l1)⟩⟩).mono fun _ _ h => ⟨h.1.trans (rb h3), Up.next Y h.2⟩)
          | (go_at_call 99; rename_i Y; exact (heldI_any lo cs U _ (HC.out.below (bt HB.out Y.h))).mono fun _ _ h => ⟨h.1.trans (rb h4), Up.next Y h.2⟩)
          | (go_at_call 100; rename_i Y; exact (wishesI_any lo _ U.wi _ ((HL.out.below (bt HB.out Y.h)).l3)).mono fun _ _ h => ⟨h.1.trans (rb h5), Up.same Y h.2⟩)
          | (go_at_call 22; rename_i Y; exact (within_any _ _ _ _).mono fun _ _ h => ⟨h.1.trans (rb h6), Up.same Y h.2⟩)
          | (go_at_call 101; rename_i Y; exact (numbersI_any lo _ U.ye U.of _ ((HL.out.below (bt HB.out Y.h)).l4)).mono fun _ _ h => ⟨h.1.trans (rb h7), Up.same Y h.2⟩)
          | (go_at_call 102; rename_i Y; exact (slotsI_any lo _ U.be _ ((HL.out.below (bt HB.out Y.h)).l5)).mono fun _ _ h => ⟨h.1.trans (rb h8), Up.next Y h.2⟩)
          | (go_at_call 103; rename_i Y; exact (acksI_any lo _ U.ac U.of _ ((HL.out.below (bt HB.out Y.h)).l6)).mono fun _ _ h => ⟨h.1.trans (rb h9), Up.next Y h.2⟩)
          | (go_at_call 104; rename_i Y; exact (roleI_any lo cs U _ (HC.out.below (bt HB.out Y.h))).mono fun _ _ h => ⟨h.1.trans HRO.out, Up.next Y h.2⟩)
          | (go_at_call 137; rename_i Y; exact (tryI_any lo cs U _ (HC.out.below (bt HB.out Y.h))).mono fun _ _ h => ⟨h.1.trans (rb h10), Up.next Y h.2⟩)
          | (go_at_call 105; rename_i Y; exact (stillI_any lo cs U _ (HC.out.below (bt HB.out Y.h))).mono fun _ _ h => ⟨h.1, Up.next Y h.2⟩)))
    refine wpQuiet_nil ?_
    intro wn hw
    obtain ⟨X, hX⟩ := hw
    have HWN : Hid (Below Wa.heap.size Wa wn) := by unfold Hid; rw [hX]; exact X.h
    clear hX X x0 x1 x2 x3 x4 x5 x6 x7 x8 x10 x14 x15 x16 x17 xs xn
    go_wp2
    go_ret
    exact ⟨ret_bool (by rw [HE.out, h1, h2, h3, h4, h5, h6, h7, h8, h9, HS.out, h10, h11]; rfl), bt HB.out HWN.out⟩
end Go.Proofs.Ytoklnkojacdciaa
