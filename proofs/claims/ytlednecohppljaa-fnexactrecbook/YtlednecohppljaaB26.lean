import Derived.Test.YtlednecohppljaaB24
import Derived.Test.YtlednecohppljaaB25
namespace Go.Proofs.Ytlednecohppljaa
open Go.ChangeShapes Go.WideShapes Go.ChangeAt Go.RowKit Go.Deep
theorem Try.cells22 : Try.prog.cellsOf 22 = 1 := by kernel_rfl
theorem Try.cells31 : Try.prog.cellsOf 31 = 3 := by kernel_rfl
theorem lstRd {l : List Value} (h : l.length = 3) : ∃ c0 c1 c2, l = [c0, c1, c2] := by
  match l, h with
  | [c0, c1, c2], _ => exact ⟨c0, c1, c2, rfl⟩
section
variable {H : Type} {enc : TypeId × Value → H} {W : World}
set_option maxRecDepth 100000 in
theorem open_Rd0 {fuel : Nat} {cs : List Value} {x : DataW H × List MemPlace} (h : DataW.trod enc Try.prog W 0 (fun _ => true) true fuel 31 cs = some x) : ∃ U, RdC 0 W cs U := by
  obtain ⟨xs, n, _, _, hl, hlen, hfld⟩ := DataW.trod_struct Try.underlying31 h
  obtain ⟨c0, c1, c2, rfl⟩ := lstRd (hl.trans Try.cells31)
  simp only [Array.size, List.length_cons, List.length_nil] at hlen
  have g0 : DataW.trod enc Try.prog W 0 (fun _ => true) true n 3 ((([c0, c1, c2] : List Value).drop 0).take (Try.prog.cellsOf 3)) = xs[0]? := hfld 0 _ rfl
  have g1 : DataW.trod enc Try.prog W 0 (fun _ => true) true n 3 ((([c0, c1, c2] : List Value).drop 1).take (Try.prog.cellsOf 3)) = xs[1]? := hfld 1 _ rfl
  have g2 : DataW.trod enc Try.prog W 0 (fun _ => true) true n 22 ((([c0, c1, c2] : List Value).drop 2).take (Try.prog.cellsOf 22)) = xs[2]? := hfld 2 _ rfl
  simp only [Try.cells3, Try.cells22, List.drop_succ_cons, List.drop_zero, List.take_succ_cons, List.take_zero] at g0 g1 g2
  rw [List.getElem?_eq_getElem (by omega)] at g0 g1 g2
  obtain ⟨q0, e0, _, _⟩ := DataW.trod_int Try.underlying3 g0
  simp only [List.cons.injEq, and_true] at e0
  subst e0
  obtain ⟨q1, e1, _, _⟩ := DataW.trod_int Try.underlying3 g1
  simp only [List.cons.injEq, and_true] at e1
  subst e1
  obtain ⟨q2, h2⟩ := open_Rss g2
  obtain ⟨a0, k0, rfl⟩ := h2.form
  exact ⟨⟨q0, q1, q2⟩, a0, k0, rfl, ⟨h2⟩⟩
set_option maxRecDepth 100000 in
theorem open_Rd {r : Reach} {b0 : Nat} {v : Value} {d : DataW H} {p : List MemPlace} (hv : Value.okWide Try.prog W r b0 31 v) (h : DataW.Trod enc Try.prog W 0 (fun _ => true) true 31 v d p) : ∃ (cs : List Value) (U : Rd), v = .agg cs.toArray ∧ RdC 0 W cs U := by
  obtain ⟨cs, rfl, hsz⟩ := okWide_struct Try.underlying31 hv
  obtain ⟨fuel, hf⟩ := h
  obtain ⟨U, hU⟩ := open_Rd0 (cs := cs.toList) hf
  exact ⟨cs.toList, U, rfl, hU⟩
end
theorem Try.cells85 : Try.prog.cellsOf 85 = 8 := by kernel_rfl
theorem lstRm {l : List Value} (h : l.length = 8) : ∃ c0 c1 c2 c3 c4 c5 c6 c7, l = [c0, c1, c2, c3, c4, c5, c6, c7] := by
  match l, h with
  | [c0, c1, c2, c3, c4, c5, c6, c7], _ => exact ⟨c0, c1, c2, c3, c4, c5, c6, c7, rfl⟩
section
variable {H : Type} {enc : TypeId × Value → H} {W : World}
set_option maxRecDepth 100000 in
theorem open_Rm0 {fuel : Nat} {cs : List Value} {x : DataW H × List MemPlace} (h : DataW.trod enc Try.prog W 0 (fun _ => true) true fuel 85 cs = some x) : ∃ U, RmC 0 W cs U := by
  obtain ⟨xs, n, _, _, hl, hlen, hfld⟩ := DataW.trod_struct Try.underlying85 h
  obtain ⟨c0, c1, c2, c3, c4, c5, c6, c7, rfl⟩ := lstRm (hl.trans Try.cells85)
  simp only [Array.size, List.length_cons, List.length_nil] at hlen
  have g0 : DataW.trod enc Try.prog W 0 (fun _ => true) true n 3 ((([c0, c1, c2, c3, c4, c5, c6, c7] : List Value).drop 0).take (Try.prog.cellsOf 3)) = xs[0]? := hfld 0 _ rfl
  have g1 : DataW.trod enc Try.prog W 0 (fun _ => true) true n 3 ((([c0, c1, c2, c3, c4, c5, c6, c7] : List Value).drop 1).take (Try.prog.cellsOf 3)) = xs[1]? := hfld 1 _ rfl
  have g2 : DataW.trod enc Try.prog W 0 (fun _ => true) true n 3 ((([c0, c1, c2, c3, c4, c5, c6, c7] : List Value).drop 2).take (Try.prog.cellsOf 3)) = xs[2]? := hfld 2 _ rfl
  have g3 : DataW.trod enc Try.prog W 0 (fun _ => true) true n 3 ((([c0, c1, c2, c3, c4, c5, c6, c7] : List Value).drop 3).take (Try.prog.cellsOf 3)) = xs[3]? := hfld 3 _ rfl
  have g4 : DataW.trod enc Try.prog W 0 (fun _ => true) true n 3 ((([c0, c1, c2, c3, c4, c5, c6, c7] : List Value).drop 4).take (Try.prog.cellsOf 3)) = xs[4]? := hfld 4 _ rfl
  have g5 : DataW.trod enc Try.prog W 0 (fun _ => true) true n 3 ((([c0, c1, c2, c3, c4, c5, c6, c7] : List Value).drop 5).take (Try.prog.cellsOf 3)) = xs[5]? := hfld 5 _ rfl
  have g6 : DataW.trod enc Try.prog W 0 (fun _ => true) true n 9 ((([c0, c1, c2, c3, c4, c5, c6, c7] : List Value).drop 6).take (Try.prog.cellsOf 9)) = xs[6]? := hfld 6 _ rfl
  have g7 : DataW.trod enc Try.prog W 0 (fun _ => true) true n 22 ((([c0, c1, c2, c3, c4, c5, c6, c7] : List Value).drop 7).take (Try.prog.cellsOf 22)) = xs[7]? := hfld 7 _ rfl
  simp only [Try.cells3, Try.cells9, Try.cells22, List.drop_succ_cons, List.drop_zero, List.take_succ_cons, List.take_zero] at g0 g1 g2 g3 g4 g5 g6 g7
  rw [List.getElem?_eq_getElem (by omega)] at g0 g1 g2 g3 g4 g5 g6 g7
  obtain ⟨q0, e0, _, _⟩ := DataW.trod_int Try.underlying3 g0
  simp only [List.cons.injEq, and_true] at e0
  subst e0
  obtain ⟨q1, e1, _, _⟩ := DataW.trod_int Try.underlying3 g1
  simp only [List.cons.injEq, and_true] at e1
  subst e1
  obtain ⟨q2, e2, _, _⟩ := DataW.trod_int Try.underlying3 g2
  simp only [List.cons.injEq, and_true] at e2
  subst e2
  obtain ⟨q3, e3, _, _⟩ := DataW.trod_int Try.underlying3 g3
  simp only [List.cons.injEq, and_true] at e3
  subst e3
  obtain ⟨q4, e4, _, _⟩ := DataW.trod_int Try.underlying3 g4
  simp only [List.cons.injEq, and_true] at e4
  subst e4
  obtain ⟨q5, e5, _, _⟩ := DataW.trod_int Try.underlying3 g5
  simp only [List.cons.injEq, and_true] at e5
  subst e5
  obtain ⟨q6, e6, _, t6⟩ := DataW.trod_string Try.underlying9 g6
  simp only [List.cons.injEq, and_true] at e6
  subst e6
  obtain ⟨q7, h7⟩ := open_Rss g7
  obtain ⟨a0, k0, rfl⟩ := h7.form
  exact ⟨⟨q0, q1, q2, q3, q4, q5, q6, q7⟩, a0, k0, rfl, ⟨h7, t6⟩⟩
set_option maxRecDepth 100000 in
theorem open_Rm {r : Reach} {b0 : Nat} {v : Value} {d : DataW H} {p : List MemPlace} (hv : Value.okWide Try.prog W r b0 85 v) (h : DataW.Trod enc Try.prog W 0 (fun _ => true) true 85 v d p) : ∃ (cs : List Value) (U : Rm), v = .agg cs.toArray ∧ RmC 0 W cs U := by
  obtain ⟨cs, rfl, hsz⟩ := okWide_struct Try.underlying85 hv
  obtain ⟨fuel, hf⟩ := h
  obtain ⟨U, hU⟩ := open_Rm0 (cs := cs.toList) hf
  exact ⟨cs.toList, U, rfl, hU⟩
end
end Go.Proofs.Ytlednecohppljaa
namespace Go.Proofs.Ytlednecohppljaa
open Go.RowKit Go.Deep

/-! spec.l22Numbers -/
def nokB (of : Int) (L : List Int) (i : Nat) : Bool := inB 1 of (L.getD i 0) && !(decide (0 < (i : Int)) && decide (L.getD i 0 ≤ L.getD (i - 1) 0))
def numsB (of : Int) (L : List Int) : Bool := (List.range L.length).all (nokB of L)

set_option maxRecDepth 20000 in
set_option maxHeartbeats 8000000 in
theorem l22Numbers_any (lo : Nat) (v : Value) (L : List Int) (of : Int) (w : World) (hv : RisAt lo w v L) :
    Calls Try.prog 57 #[v, .int .i64 of] w fun e w' => e = .returned (.bool (numsB of L)) ∧ Below w.heap.size w w' := by
  have HV := hide hv
  have hm := hv.max
  unfold maxLen at hm
  obtain ⟨a, cap, rfl⟩ := hv.form
  clear hv
  have HE1 : Hid (numsB of L = (List.range L.length).all (nokB of L)) := rfl
  go_enter Try.func57, Try.ntmps57
  go_wp2
  go_loopw [5] (fun i wr => ∃ k : Nat, i = .int .i64 k ∧ k ≤ L.length ∧ Below w.heap.size w wr ∧ ∀ j, j < k → nokB of L j = true) (fun i _ => L.length - (intOf i).toNat)
  case atStart => exact ⟨0, rfl, by omega, Below.refl _ _, fun j h => by omega⟩
  case round =>
    obtain ⟨k, rfl, hk, hb, hall⟩ := hrel
    have HAL := hide hall
    have HBr := hide hb
    clear hall hb
    by_cases hlt : k < L.length
    · obtain ⟨b, off, rfl, hbw, -, hc⟩ := HV.out.full' (by omega)
      obtain ⟨x, hx⟩ : ∃ x, x = L[k] := ⟨_, rfl⟩
      obtain ⟨p, hp⟩ : ∃ p, p = L.getD (k - 1) 0 := ⟨_, rfl⟩
      have hgx : L.getD k 0 = x := by rw [hx, List.getD_eq_getElem?_getD, List.getElem?_eq_getElem hlt]; rfl
      have HDK : Hid (nokB of L k = (inB 1 of x && !(decide (0 < (k : Int)) && decide (x ≤ p)))) := by unfold Hid nokB; rw [hgx, ← hp]
      have HC : Hid (wr.cell? ⟨b, off + k, none⟩ = some (.int .i64 x)) := by unfold Hid; rw [HBr.out.cell (p := ⟨b, off + k, none⟩) hbw, hx]; exact (hc k hlt).2
      have HP : Hid (0 < k → wr.cell? ⟨b, off + (k - 1), none⟩ = some (.int .i64 p)) := by
        unfold Hid
        intro hk0
        rw [HBr.out.cell (p := ⟨b, off + (k - 1), none⟩) hbw, hp, List.getD_eq_getElem?_getD, List.getElem?_eq_getElem (by omega)]
        exact (hc (k - 1) (by omega)).2
      clear hc hx hp hgx
      go_wp2
      go_cut [34] (fun c wc => c = .bool (!(nokB of L k)) ∧ Below wr.heap.size wr wc)
      case first =>
        have xn : Nonempty (In (Up wr)) := ⟨⟨wr, Below.refl _ _⟩⟩
        have xs := fun (X : In (Up wr)) => in_self X
        have s0 : ∀ X : In (Up wr), _ := fun X => Up.cell X HC.out
        have i0 : (0 : Int) ≤ (k : Int) := by omega
        have i1 : (k : Int) < (L.length : Int) := by omega
        refine wp_region_class (Up wr) (by kernel_rfl) (by kernel_rfl) ((Below.refl _ _).drew) ?_
        cases q1 : inB 1 of x with
        | false =>
          repeat (go_big_quiet_step ((go_at_call 53; rename_i Y; exact (in21_any _ _ _ _).mono fun _ _ h => ⟨h.1, Up.next Y (by rw [h.2]; exact Below.refl _ _)⟩)))
          refine wpQuiet_nil ?_
          intro wn hw
          obtain ⟨X, hX⟩ := hw
          have HWN : Below wr.heap.size wr wn := by rw [hX]; exact X.h
          clear hX X s0 xs xn
          go_wp2
          go_meet
          exact ⟨congrArg Value.bool (by rw [HDK.out, q1]; rfl), HWN⟩
        | true =>
          by_cases q2 : 0 < k
          · have d2 : decide (0 < (k : Int)) = true := by simp; omega
            have s1 : ∀ X : In (Up wr), _ := fun X => Up.cell X (HP.out q2)
            have j0 : (0 : Int) ≤ (k : Int) - 1 := by omega
            have j1 : (k : Int) - 1 < (L.length : Int) := by omega
            have jn : ((k : Int) - 1).toNat = k - 1 := by omega
            cases q3 : decide (x ≤ p) with
            | true =>
              repeat (go_big_quiet_step ((go_at_call 53; rename_i Y; exact (in21_any _ _ _ _).mono fun _ _ h => ⟨h.1, Up.next Y (by rw [h.2]; exact Below.refl _ _)⟩)))
              refine wpQuiet_nil ?_
              intro wn hw
              obtain ⟨X, hX⟩ := hw
              have HWN : Below wr.heap.size wr wn := by rw [hX]; exact X.h
              clear hX X s0 s1 xs xn
              go_wp2
              go_meet
              exact ⟨congrArg Value.bool (by rw [HDK.out, q1, d2, q3]; rfl), HWN⟩
            | false =>
              repeat (go_big_quiet_step ((go_at_call 53; rename_i Y; exact (in21_any _ _ _ _).mono fun _ _ h => ⟨h.1, Up.next Y (by rw [h.2]; exact Below.refl _ _)⟩)))
              refine wpQuiet_nil ?_
              intro wn hw
              obtain ⟨X, hX⟩ := hw
              have HWN : Below wr.heap.size wr wn := by rw [hX]; exact X.h
              clear hX X s0 s1 xs xn
              go_wp2
              go_meet
              exact ⟨congrArg Value.bool (by rw [HDK.out, q1, d2, q3]; rfl), HWN⟩
          · have d2 : decide (0 < (k : Int)) = false := by simp; omega
            repeat (go_big_quiet_step ((go_at_call 53; rename_i Y; exact (in21_any _ _ _ _).mono fun _ _ h => ⟨h.1, Up.next Y (by rw [h.2]; exact Below.refl _ _)⟩)))
            refine wpQuiet_nil ?_
            intro wn hw
            obtain ⟨X, hX⟩ := hw
            have HWN : Below wr.heap.size wr wn := by rw [hX]; exact X.h
            clear hX X s0 xs xn
            go_wp2
            go_meet
            exact ⟨congrArg Value.bool (by rw [HDK.out, q1, d2]; rfl), HWN⟩
      case rest =>
      obtain ⟨rfl, hbc⟩ := hcut
      have HBc : Hid (Below w.heap.size w wc) := bt HBr.out hbc
      clear hbc
      cases h7 : nokB of L k with
      | false =>
        have HNo : Hid (numsB of L = false) := by unfold Hid; rw [HE1.out]; exact range_not hlt h7
        go_wp2
        go_ret
        exact ⟨ret_bool HNo.out.symm, HBc.out⟩
      | true =>
        have HT := hide h7
        go_wp2
        go_roundw
        case rel => exact ⟨k + 1, by go_num, by omega, HBc.out, fun j hj => by
                      by_cases e : j = k
                      · rw [e]; exact HT.out
                      · exact HAL.out j (by omega)⟩
        case measure => simp [intOf]; omega
    · have HE2 : Hid (numsB of L = true) := by unfold Hid; rw [HE1.out]; exact range_all (fun i hi => HAL.out i (by omega))
      go_wp2
      go_ret
      exact ⟨ret_bool HE2.out.symm, HBr.out⟩
end Go.Proofs.Ytlednecohppljaa
