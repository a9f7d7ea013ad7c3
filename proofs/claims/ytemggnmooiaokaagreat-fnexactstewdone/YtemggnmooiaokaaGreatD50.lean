import Derived.Test.YtemggnmooiaokaaGreatD26
import Derived.Test.YtemggnmooiaokaaGreatD49
namespace Go.Proofs.YtemggnmooiaokaaGreat
open Go.RowKit Go.Deep

set_option maxRecDepth 100000 in
set_option maxHeartbeats 4000000 in
theorem between_any (n ls ms : Int) (w : World) :
    Calls Tryz.prog 103 #[.int .i64 n, .int .i64 ls, .int .i64 ms] w fun e w' => e = .returned (.int .i64 (btw n ls ms)) ∧ Below w.heap.size w w' := by
  go_enter Tryz.func103, Tryz.ntmps103
  go_wp2
  go_ret
  exact ⟨rfl, Below.refl _ _⟩

section
variable (x : Sv) (w : World)

set_option maxRecDepth 100000 in
set_option maxHeartbeats 8000000 in
theorem dueWant_any (hp : 1 ≤ x.pr) (hp2 : x.pr ≤ 1000000) (hl0 : 0 ≤ x.ld) (hl : x.ld ≤ 1000000) (hm : x.ls ≤ x.ms) :
    Calls Tryz.prog 76 #[.agg #[.string x.nm, .int .i64 x.ve, .bool x.gn, .int .i64 x.im, .int .i64 x.wa, .int .i64 x.dn, .int .i64 x.ov, .int .i64 x.nx, .int .i64 x.pr, .int .i64 x.ls, .int .i64 x.ms, .int .i64 x.ld, .int .i64 x.cl]] w fun e w' => e = .returned (.int .i64 (desF x)) ∧ Below w.heap.size w w' := by
  have HD := hide (des_btw hm)
  have hne : x.pr ≠ 0 := by omega
  go_enter Tryz.func76, Tryz.ntmps76
  go_wp2_with fail
  generalize hWa : w.alloc _ = Wa
  have HBa : Hid (Below w.heap.size w Wa) := by unfold Hid; rw [← hWa]; exact one_al w _
  have FS : Hid (Box Wa w.heap.size #[.string x.nm, .int .i64 x.ve, .bool x.gn, .int .i64 x.im, .int .i64 x.wa, .int .i64 x.dn, .int .i64 x.ov, .int .i64 x.nx, .int .i64 x.pr, .int .i64 x.ls, .int .i64 x.ms, .int .i64 x.ld, .int .i64 x.cl]) := by unfold Hid; rw [← hWa]; exact Box.new _ _ _ _ rfl
  clear hWa
  go_cut [2] from 3 to 16 (fun v wc => v = .int .i64 (desF x) ∧ Below Wa.heap.size Wa wc)
  case first =>
    have xn : Nonempty (In (Up Wa)) := ⟨⟨Wa, Below.refl _ _⟩⟩
    have xs := fun (Y : In (Up Wa)) => in_self Y
    have p8 : ∀ Y : In (Up Wa), _ := fun Y => Up.cell Y (FS.out.cell 8)
    have p9 : ∀ Y : In (Up Wa), _ := fun Y => Up.cell Y (FS.out.cell 9)
    have p10 : ∀ Y : In (Up Wa), _ := fun Y => Up.cell Y (FS.out.cell 10)
    have p11 : ∀ Y : In (Up Wa), _ := fun Y => Up.cell Y (FS.out.cell 11)
    simp at p8 p9 p10 p11
    refine wp_region_class (Up Wa) (by kernel_rfl) (by kernel_rfl) ((Below.refl _ _).drew) ?_
    repeat (go_big_quiet_step (first | (go_at_call 103; rename_i Y; exact (between_any _ _ _ _).mono fun _ _ h => ⟨h.1, Up.next Y h.2⟩)))
    refine wpQuiet_nil ?_
    intro wn hw
    obtain ⟨Y, hY⟩ := hw
    have HWN : Below Wa.heap.size Wa wn := by rw [hY]; exact Y.h
    clear hY Y p8 p9 p10 p11 xs xn
    go_wp2
    go_meet
    exact ⟨by rw [HD.out], HWN⟩
  case rest =>
  obtain ⟨rfl, hb⟩ := hcut
  have HB := hide (bt HBa.out hb)
  clear hb
  go_wp2
  go_ret
  exact ⟨rfl, HB.out⟩

set_option maxRecDepth 100000 in
set_option maxHeartbeats 8000000 in
theorem follows_any (hper : 0 ≤ x.pr ∧ x.pr ≤ 1000000 ∧ 0 ≤ x.ld ∧ x.ld ≤ 1000000 ∧ x.ls ≤ x.ms) :
    Calls Tryz.prog 57 #[.agg #[.string x.nm, .int .i64 x.ve, .bool x.gn, .int .i64 x.im, .int .i64 x.wa, .int .i64 x.dn, .int .i64 x.ov, .int .i64 x.nx, .int .i64 x.pr, .int .i64 x.ls, .int .i64 x.ms, .int .i64 x.ld, .int .i64 x.cl]] w fun e w' => e = .returned (.bool (folB x)) ∧ Below w.heap.size w w' := by
  go_enter Tryz.func57, Tryz.ntmps57
  go_wp2_with fail
  generalize hWa : w.alloc _ = Wa
  have HBa : Hid (Below w.heap.size w Wa) := by unfold Hid; rw [← hWa]; exact one_al w _
  have FS : Hid (Box Wa w.heap.size #[.string x.nm, .int .i64 x.ve, .bool x.gn, .int .i64 x.im, .int .i64 x.wa, .int .i64 x.dn, .int .i64 x.ov, .int .i64 x.nx, .int .i64 x.pr, .int .i64 x.ls, .int .i64 x.ms, .int .i64 x.ld, .int .i64 x.cl]) := by unfold Hid; rw [← hWa]; exact Box.new _ _ _ _ rfl
  clear hWa
  go_cut [2] from 3 to 17 (fun v wc => v = .bool (folB x) ∧ Below Wa.heap.size Wa wc)
  case first =>
    have xn : Nonempty (In (Up Wa)) := ⟨⟨Wa, Below.refl _ _⟩⟩
    have xs := fun (Y : In (Up Wa)) => in_self Y
    have p0 : ∀ Y : In (Up Wa), _ := fun Y => Up.cell Y (FS.out.cell 0)
    have p1 : ∀ Y : In (Up Wa), _ := fun Y => Up.cell Y (FS.out.cell 1)
    have p2 : ∀ Y : In (Up Wa), _ := fun Y => Up.cell Y (FS.out.cell 2)
    have p3 : ∀ Y : In (Up Wa), _ := fun Y => Up.cell Y (FS.out.cell 3)
    have p4 : ∀ Y : In (Up Wa), _ := fun Y => Up.cell Y (FS.out.cell 4)
    have p5 : ∀ Y : In (Up Wa), _ := fun Y => Up.cell Y (FS.out.cell 5)
    have p6 : ∀ Y : In (Up Wa), _ := fun Y => Up.cell Y (FS.out.cell 6)
    have p7 : ∀ Y : In (Up Wa), _ := fun Y => Up.cell Y (FS.out.cell 7)
    have p8 : ∀ Y : In (Up Wa), _ := fun Y => Up.cell Y (FS.out.cell 8)
    have p9 : ∀ Y : In (Up Wa), _ := fun Y => Up.cell Y (FS.out.cell 9)
    have p10 : ∀ Y : In (Up Wa), _ := fun Y => Up.cell Y (FS.out.cell 10)
    have p11 : ∀ Y : In (Up Wa), _ := fun Y => Up.cell Y (FS.out.cell 11)
    have p12 : ∀ Y : In (Up Wa), _ := fun Y => Up.cell Y (FS.out.cell 12)
    simp at p0 p1 p2 p3 p4 p5 p6 p7 p8 p9 p10 p11 p12
    by_cases hp : x.pr = 0
    · have hpb : (x.pr == 0) = true := by simp [hp]
      have HE : Hid (folB x = true) := by unfold Hid folB; rw [hpb]; rfl
      clear hp
      refine wp_region_class (Up Wa) (by kernel_rfl) (by kernel_rfl) ((Below.refl _ _).drew) ?_
      repeat (go_big_quiet_step (fail))
      refine wpQuiet_nil ?_
      intro wn hw
      obtain ⟨Y, hY⟩ := hw
      have HWN : Below Wa.heap.size Wa wn := by rw [hY]; exact Y.h
      clear hY Y p0 p1 p2 p3 p4 p5 p6 p7 p8 p9 p10 p11 p12 xs xn
      go_wp2
      go_meet
      exact ⟨by rw [HE.out], HWN⟩
    · have hpb : (x.pr == 0) = false := by simp [hp]
      obtain ⟨d, hd⟩ : ∃ d, d = desF x := ⟨_, rfl⟩
      have HE : Hid (folB x = ((x.wa == d) && (x.cl == 0))) := fol_pos hp hd
      have HDes : Hid (∀ W, Calls Tryz.prog 76 #[.agg #[.string x.nm, .int .i64 x.ve, .bool x.gn, .int .i64 x.im, .int .i64 x.wa, .int .i64 x.dn, .int .i64 x.ov, .int .i64 x.nx, .int .i64 x.pr, .int .i64 x.ls, .int .i64 x.ms, .int .i64 x.ld, .int .i64 x.cl]] W fun e w' => e = .returned (.int .i64 d) ∧ Below W.heap.size W w') := fun W => (dueWant_any x W (by omega) (by omega) (by omega) (by omega) (by omega)).mono fun _ _ h => ⟨h.1.trans (by rw [hd]), h.2⟩
      clear hp hd
      cases hwd : (x.wa == d) with
      | true =>
        refine wp_region_class (Up Wa) (by kernel_rfl) (by kernel_rfl) ((Below.refl _ _).drew) ?_
        repeat (go_big_quiet_step (first | (go_at_call 76; rename_i Y; exact (HDes.out _).mono fun _ _ h => ⟨h.1, Up.next Y h.2⟩)))
        refine wpQuiet_nil ?_
        intro wn hw
        obtain ⟨Y, hY⟩ := hw
        have HWN : Below Wa.heap.size Wa wn := by rw [hY]; exact Y.h
        clear hY Y p0 p1 p2 p3 p4 p5 p6 p7 p8 p9 p10 p11 p12 xs xn
        go_wp2
        go_meet
        exact ⟨by rw [HE.out, hwd]; rfl, HWN⟩
      | false =>
        refine wp_region_class (Up Wa) (by kernel_rfl) (by kernel_rfl) ((Below.refl _ _).drew) ?_
        repeat (go_big_quiet_step (first | (go_at_call 76; rename_i Y; exact (HDes.out _).mono fun _ _ h => ⟨h.1, Up.next Y h.2⟩)))
        refine wpQuiet_nil ?_
        intro wn hw
        obtain ⟨Y, hY⟩ := hw
        have HWN : Below Wa.heap.size Wa wn := by rw [hY]; exact Y.h
        clear hY Y p0 p1 p2 p3 p4 p5 p6 p7 p8 p9 p10 p11 p12 xs xn
        go_wp2
        go_meet
        exact ⟨by rw [HE.out, hwd]; rfl, HWN⟩
  case rest =>
  obtain ⟨rfl, hb⟩ := hcut
  have HB := hide (bt HBa.out hb)
  clear hb
  go_wp2
  go_ret
  exact ⟨rfl, HB.out⟩
end
end Go.Proofs.YtemggnmooiaokaaGreat
