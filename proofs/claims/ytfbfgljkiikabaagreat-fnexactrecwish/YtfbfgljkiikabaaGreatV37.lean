import Derived.Test.YtfbfgljkiikabaaGreatV35
import Derived.Test.YtfbfgljkiikabaaGreatV36
import Derived.Laws.IdiomCopy
import Derived.OrdersHeld
import Derived.Deep.RegionHeld3
namespace Go.Proofs.YtfbfgljkiikabaaGreat
open Go.ChangeShapes Go.WideShapes Go.ChangeAt Go.RowKit Go.Deep
theorem Tryz.cells30 : Tryz.prog.cellsOf 30 = 18 := by kernel_rfl
theorem lstRr {l : List Value} (h : l.length = 18) : ∃ c0 c1 c2 c3 c4 c5 c6 c7 c8 c9 c10 c11 c12 c13 c14 c15 c16 c17, l = [c0, c1, c2, c3, c4, c5, c6, c7, c8, c9, c10, c11, c12, c13, c14, c15, c16, c17] := by
  match l, h with
  | [c0, c1, c2, c3, c4, c5, c6, c7, c8, c9, c10, c11, c12, c13, c14, c15, c16, c17], _ => exact ⟨c0, c1, c2, c3, c4, c5, c6, c7, c8, c9, c10, c11, c12, c13, c14, c15, c16, c17, rfl⟩
section
variable {H : Type} {enc : TypeId × Value → H} {W : World}
set_option maxRecDepth 100000 in
theorem open_Rr0 {fuel : Nat} {cs : List Value} {x : DataW H × List MemPlace} (h : DataW.trod enc Tryz.prog W 0 (fun _ => true) true fuel 30 cs = some x) : ∃ U, RrC 0 W cs U := by
  obtain ⟨xs, n, _, _, hl, hlen, hfld⟩ := DataW.trod_struct Tryz.underlying30 h
  obtain ⟨c0, c1, c2, c3, c4, c5, c6, c7, c8, c9, c10, c11, c12, c13, c14, c15, c16, c17, rfl⟩ := lstRr (hl.trans Tryz.cells30)
  simp only [Array.size, List.length_cons, List.length_nil] at hlen
  have g0 : DataW.trod enc Tryz.prog W 0 (fun _ => true) true n 3 ((([c0, c1, c2, c3, c4, c5, c6, c7, c8, c9, c10, c11, c12, c13, c14, c15, c16, c17] : List Value).drop 0).take (Tryz.prog.cellsOf 3)) = xs[0]? := hfld 0 _ rfl
  have g1 : DataW.trod enc Tryz.prog W 0 (fun _ => true) true n 3 ((([c0, c1, c2, c3, c4, c5, c6, c7, c8, c9, c10, c11, c12, c13, c14, c15, c16, c17] : List Value).drop 1).take (Tryz.prog.cellsOf 3)) = xs[1]? := hfld 1 _ rfl
  have g2 : DataW.trod enc Tryz.prog W 0 (fun _ => true) true n 4 ((([c0, c1, c2, c3, c4, c5, c6, c7, c8, c9, c10, c11, c12, c13, c14, c15, c16, c17] : List Value).drop 2).take (Tryz.prog.cellsOf 4)) = xs[2]? := hfld 2 _ rfl
  have g3 : DataW.trod enc Tryz.prog W 0 (fun _ => true) true n 24 ((([c0, c1, c2, c3, c4, c5, c6, c7, c8, c9, c10, c11, c12, c13, c14, c15, c16, c17] : List Value).drop 3).take (Tryz.prog.cellsOf 24)) = xs[3]? := hfld 3 _ rfl
  have g4 : DataW.trod enc Tryz.prog W 0 (fun _ => true) true n 24 ((([c0, c1, c2, c3, c4, c5, c6, c7, c8, c9, c10, c11, c12, c13, c14, c15, c16, c17] : List Value).drop 6).take (Tryz.prog.cellsOf 24)) = xs[4]? := hfld 4 _ rfl
  have g5 : DataW.trod enc Tryz.prog W 0 (fun _ => true) true n 25 ((([c0, c1, c2, c3, c4, c5, c6, c7, c8, c9, c10, c11, c12, c13, c14, c15, c16, c17] : List Value).drop 9).take (Tryz.prog.cellsOf 25)) = xs[5]? := hfld 5 _ rfl
  have g6 : DataW.trod enc Tryz.prog W 0 (fun _ => true) true n 26 ((([c0, c1, c2, c3, c4, c5, c6, c7, c8, c9, c10, c11, c12, c13, c14, c15, c16, c17] : List Value).drop 10).take (Tryz.prog.cellsOf 26)) = xs[6]? := hfld 6 _ rfl
  have g7 : DataW.trod enc Tryz.prog W 0 (fun _ => true) true n 4 ((([c0, c1, c2, c3, c4, c5, c6, c7, c8, c9, c10, c11, c12, c13, c14, c15, c16, c17] : List Value).drop 11).take (Tryz.prog.cellsOf 4)) = xs[7]? := hfld 7 _ rfl
  have g8 : DataW.trod enc Tryz.prog W 0 (fun _ => true) true n 4 ((([c0, c1, c2, c3, c4, c5, c6, c7, c8, c9, c10, c11, c12, c13, c14, c15, c16, c17] : List Value).drop 12).take (Tryz.prog.cellsOf 4)) = xs[8]? := hfld 8 _ rfl
  have g9 : DataW.trod enc Tryz.prog W 0 (fun _ => true) true n 3 ((([c0, c1, c2, c3, c4, c5, c6, c7, c8, c9, c10, c11, c12, c13, c14, c15, c16, c17] : List Value).drop 13).take (Tryz.prog.cellsOf 3)) = xs[9]? := hfld 9 _ rfl
  have g10 : DataW.trod enc Tryz.prog W 0 (fun _ => true) true n 27 ((([c0, c1, c2, c3, c4, c5, c6, c7, c8, c9, c10, c11, c12, c13, c14, c15, c16, c17] : List Value).drop 14).take (Tryz.prog.cellsOf 27)) = xs[10]? := hfld 10 _ rfl
  have g11 : DataW.trod enc Tryz.prog W 0 (fun _ => true) true n 22 ((([c0, c1, c2, c3, c4, c5, c6, c7, c8, c9, c10, c11, c12, c13, c14, c15, c16, c17] : List Value).drop 15).take (Tryz.prog.cellsOf 22)) = xs[11]? := hfld 11 _ rfl
  have g12 : DataW.trod enc Tryz.prog W 0 (fun _ => true) true n 28 ((([c0, c1, c2, c3, c4, c5, c6, c7, c8, c9, c10, c11, c12, c13, c14, c15, c16, c17] : List Value).drop 16).take (Tryz.prog.cellsOf 28)) = xs[12]? := hfld 12 _ rfl
  have g13 : DataW.trod enc Tryz.prog W 0 (fun _ => true) true n 3 ((([c0, c1, c2, c3, c4, c5, c6, c7, c8, c9, c10, c11, c12, c13, c14, c15, c16, c17] : List Value).drop 17).take (Tryz.prog.cellsOf 3)) = xs[13]? := hfld 13 _ rfl
  simp only [Tryz.cells3, Tryz.cells4, Tryz.cells27, Tryz.cells26, Tryz.cells28, Tryz.cells25, Tryz.cells22, Tryz.cells24, List.drop_succ_cons, List.drop_zero, List.take_succ_cons, List.take_zero] at g0 g1 g2 g3 g4 g5 g6 g7 g8 g9 g10 g11 g12 g13
  rw [List.getElem?_eq_getElem (by omega)] at g0 g1 g2 g3 g4 g5 g6 g7 g8 g9 g10 g11 g12 g13
  obtain ⟨q0, e0, _, _⟩ := DataW.trod_int Tryz.underlying3 g0
  simp only [List.cons.injEq, and_true] at e0
  subst e0
  obtain ⟨q1, e1, _, _⟩ := DataW.trod_int Tryz.underlying3 g1
  simp only [List.cons.injEq, and_true] at e1
  subst e1
  obtain ⟨q2, e2, _⟩ := DataW.trod_bool Tryz.underlying4 g2
  simp only [List.cons.injEq, and_true] at e2
  subst e2
  obtain ⟨q3, a0, k0, e3, h3⟩ := open_Rd0 g3
  unfold rdL at e3
  simp only [List.cons.injEq, and_true] at e3
  obtain ⟨r3_0, r3_1, r3_2⟩ := e3
  subst r3_0 r3_1 r3_2
  obtain ⟨q4, a1, k1, e4, h4⟩ := open_Rd0 g4
  unfold rdL at e4
  simp only [List.cons.injEq, and_true] at e4
  obtain ⟨r4_0, r4_1, r4_2⟩ := e4
  subst r4_0 r4_1 r4_2
  obtain ⟨q5, h5⟩ := open_Rms g5
  obtain ⟨a2, k2, rfl⟩ := h5.form
  obtain ⟨q6, h6⟩ := open_Rts g6
  obtain ⟨a3, k3, rfl⟩ := h6.form
  obtain ⟨q7, e7, _⟩ := DataW.trod_bool Tryz.underlying4 g7
  simp only [List.cons.injEq, and_true] at e7
  subst e7
  obtain ⟨q8, e8, _⟩ := DataW.trod_bool Tryz.underlying4 g8
  simp only [List.cons.injEq, and_true] at e8
  subst e8
  obtain ⟨q9, e9, _, _⟩ := DataW.trod_int Tryz.underlying3 g9
  simp only [List.cons.injEq, and_true] at e9
  subst e9
  obtain ⟨q10, h10⟩ := open_Ris g10
  obtain ⟨a4, k4, rfl⟩ := h10.form
  obtain ⟨q11, h11⟩ := open_Rss g11
  obtain ⟨a5, k5, rfl⟩ := h11.form
  obtain ⟨q12, h12⟩ := open_Ras g12
  obtain ⟨a6, k6, rfl⟩ := h12.form
  obtain ⟨q13, e13, _, _⟩ := DataW.trod_int Tryz.underlying3 g13
  simp only [List.cons.injEq, and_true] at e13
  subst e13
  exact ⟨⟨q0, q1, q2, q3, q4, q5, q6, q7, q8, q9, q10, q11, q12, q13⟩, a0, k0, a1, k1, a2, k2, a3, k3, a4, k4, a5, k5, a6, k6, rfl, ⟨h3.l0, h4.l0, h5, h6, h10, h11, h12⟩⟩
set_option maxRecDepth 100000 in
theorem open_Rr {r : Reach} {b0 : Nat} {v : Value} {d : DataW H} {p : List MemPlace} (hv : Value.okWide Tryz.prog W r b0 30 v) (h : DataW.Trod enc Tryz.prog W 0 (fun _ => true) true 30 v d p) : ∃ (cs : List Value) (U : Rr), v = .agg cs.toArray ∧ RrC 0 W cs U := by
  obtain ⟨cs, rfl, hsz⟩ := okWide_struct Tryz.underlying30 hv
  obtain ⟨fuel, hf⟩ := h
  obtain ⟨U, hU⟩ := open_Rr0 (cs := cs.toList) hf
  exact ⟨cs.toList, U, rfl, hU⟩
end
end Go.Proofs.YtfbfgljkiikabaaGreat
namespace Go.Proofs.YtfbfgljkiikabaaGreat
open Go.RowKit Go.Deep

set_option maxRecDepth 20000 in
set_option maxHeartbeats 8000000 in
theorem copyMsg_any (lo : Nat) (M : Rm) (a : Option Addr) (c : Nat) (w : World) (hv : RssAt lo w (.slice a M.sl.length c) M.sl) (hn : M.sl.length ≤ 1048576) :
    Calls Tryz.prog 103 #[.agg (rmL M a c).toArray] w fun e w' => ∃ b m, e = .returned (.agg (rmL M b m).toArray) ∧ Below w.heap.size w w' ∧ NRow rsL 2 w' w.heap.size w'.heap.size (.slice b M.sl.length m) M.sl := by
  have HV := hide hv
  clear hv
  show Calls Tryz.prog 103 #[.agg #[.int .i64 M.kd, .int .i64 M.fr, .int .i64 M.tt, .int .i64 M.ba, .int .i64 M.ix, .int .i64 M.kn, .string M.tx, .slice a M.sl.length c]] w _
  go_enter Tryz.func103, Tryz.ntmps103
  go_wp2_with fail
  obtain ⟨wz, hwz, FX, FR, HB⟩ : ∃ wz, wz = (w.alloc (.cells #[.int .i64 M.kd, .int .i64 M.fr, .int .i64 M.tt, .int .i64 M.ba, .int .i64 M.ix, .int .i64 M.kn, .string M.tx, .slice a M.sl.length c] 45)).alloc (.cells #[.int .i64 0, .int .i64 0, .int .i64 0, .int .i64 0, .int .i64 0, .int .i64 0, .string ⟨#[]⟩, .slice none 0 0] 45) ∧
      Hid (Box wz w.heap.size #[.int .i64 M.kd, .int .i64 M.fr, .int .i64 M.tt, .int .i64 M.ba, .int .i64 M.ix, .int .i64 M.kn, .string M.tx, .slice a M.sl.length c]) ∧ Hid (Box wz (w.heap.size + 1) #[.int .i64 0, .int .i64 0, .int .i64 0, .int .i64 0, .int .i64 0, .int .i64 0, .string ⟨#[]⟩, .slice none 0 0]) ∧ Hid (Below w.heap.size w wz) :=
    ⟨_, rfl, (Box.new w _ _ _ rfl).on (one_al _ _), Box.new _ _ _ _ (by simp), (one_al _ _).trans ((one_al _ _).mono (by simp))⟩
  rw [← hwz]
  clear hwz
  have hz0 : w.heap.size + 2 ≤ wz.heap.size := by have := FR.out.lt; omega
  refine (copySl_any lo _ M.sl _ (HV.out.below HB.out) hn).mono ?_
  rintro e x0 ⟨u, rfl, hb, hs⟩
  obtain ⟨b0, m0, rfl⟩ := hs.form
  have hx0 : wz.heap.size ≤ x0.heap.size := hb.size
  have N0 : Hid (NRow rsL 2 x0 wz.heap.size x0.heap.size (.slice b0 M.sl.length m0) M.sl) := hs
  replace FX := hide (FX.out.on hb)
  replace FR := hide (FR.out.on hb)
  replace HB := hide (bt HB.out hb)
  clear hb hs
  have g0 := FX.out.cell
  have g1 := FX.out.free
  have g2 := FR.out.cell
  have g3 := FR.out.free
  go_wp2
  refine bodyPost_ret (v := .agg (rmL M b0 m0).toArray) (by simp [results, Tryz.results103, go_sem, g2, rmL]) rfl ⟨b0, m0, rfl, ?_, ?_⟩
  · repeat (refine Below.setCell ?_ (by simp only []; omega) _)
    exact HB.out
  · refine NRow.wide (lo := wz.heap.size) (hi := x0.heap.size) ?_ (by omega) (by simp [World.setCell])
    repeat (refine NRow.set ?_ (by simp only []; omega) _)
    exact N0.out
set_option maxRecDepth 20000 in
set_option maxHeartbeats 8000000 in
theorem copyAck_any (lo : Nat) (X : Ra) (a : Option Addr) (c : Nat) (w : World) (hv : RisAt lo w (.slice a X.fr.length c) X.fr) (hn : X.fr.length ≤ 1048576) :
    Calls Tryz.prog 106 #[.agg (raL X a c).toArray] w fun e w' => ∃ b m, e = .returned (.agg (raL X b m).toArray) ∧ Below w.heap.size w w' ∧ NRow inL 1 w' w.heap.size w'.heap.size (.slice b X.fr.length m) X.fr := by
  have HV := hide hv
  clear hv
  show Calls Tryz.prog 106 #[.agg #[.int .i64 X.ix, .slice a X.fr.length c]] w _
  go_enter Tryz.func106, Tryz.ntmps106
  go_wp2_with (at_builtin; refine Hid.out ?_)
  obtain ⟨wz, hwz, FX, FR, HB⟩ : ∃ wz, wz = (w.alloc (.cells #[.int .i64 X.ix, .slice a X.fr.length c] 112)).alloc (.cells #[.int .i64 0, .slice none 0 0] 112) ∧
      Hid (Box wz w.heap.size #[.int .i64 X.ix, .slice a X.fr.length c]) ∧ Hid (Box wz (w.heap.size + 1) #[.int .i64 0, .slice none 0 0]) ∧ Hid (Below w.heap.size w wz) :=
    ⟨_, rfl, (Box.new w _ _ _ rfl).on (one_al _ _), Box.new _ _ _ _ (by simp), (one_al _ _).trans ((one_al _ _).mono (by simp))⟩
  rw [← hwz]
  clear hwz
  have hz0 : w.heap.size + 2 ≤ wz.heap.size := by have := FR.out.lt; omega
  have HW := hide (HV.out.below HB.out)
  refine hide ?_
  refine wpList_nr inL_len (by decide) Tryz.underlying27 infoIn rfl (w := wz) (lo := wz.heap.size) (hi' := wz.heap.size) (L := []) X.fr rfl (.const (.slice none 0 0)) (.tmp 4) rfl rfl (NRow.nil _ _ _ _ _) a X.fr.length c rfl rfl (fun e => HW.out.nilN e) HW.out.src (inL_one _) (by simp; omega) (by decide) ?_
  intro u x0 h1 h2
  have hb : Below wz.heap.size wz x0 := h1.none (Nat.le_refl _)
  rw [List.nil_append] at h2
  have hs := NRow.freshB h2 h1.size
  obtain ⟨b0, m0, rfl⟩ := hs.form
  have hx0 : wz.heap.size ≤ x0.heap.size := hb.size
  have N0 := hide hs
  replace FX := hide (FX.out.on hb)
  replace FR := hide (FR.out.on hb)
  replace HB := hide (bt HB.out hb)
  clear hb h1 h2 hs HW
  have g0 := FX.out.cell
  have g1 := FX.out.free
  have g2 := FR.out.cell
  have g3 := FR.out.free
  go_wp2
  refine bodyPost_ret (v := .agg (raL X b0 m0).toArray) (by simp [results, Tryz.results106, go_sem, g2, raL]) rfl ⟨b0, m0, rfl, ?_, ?_⟩
  · repeat (refine Below.setCell ?_ (by simp only []; omega) _)
    exact HB.out
  · refine NRow.wide (lo := wz.heap.size) (hi := x0.heap.size) ?_ (by omega) (by simp [World.setCell])
    repeat (refine NRow.set ?_ (by simp only []; omega) _)
    exact N0.out
theorem sizeTx : (Tryz.prog.info? 9).map (·.size) = some 1 := by kernel_rfl
set_option maxRecDepth 20000 in
set_option maxHeartbeats 8000000 in
theorem copyTx_any (lo : Nat) (v : Value) (L : List ByteArray) (w : World) (hv : RtsAt lo w v L) (hn : L.length ≤ 1048576) :
    Calls Tryz.prog 104 #[v] w fun e w' => ∃ v', e = .returned v' ∧ Below w.heap.size w w' ∧ NRow tyL 1 w' w.heap.size w'.heap.size v' L := by
  have hnil := fun W a n c => Lib.run_eql_slice_nil (P := Tryz.prog) W 26 9 a n c 0 0 Tryz.underlying26
  obtain ⟨i0, hi, hz0, hz1, hz2⟩ := info_parts infoTx
  have hmk : ∀ u : World, (Instr.makeSlice 26 (.int .i64 (L.length : Int)) (.int .i64 (L.length : Int))).run Tryz.prog u = .ok (.slice (some ⟨u.heap.size, 0, none⟩) L.length L.length) (u.alloc (.cells (madeCells (Value.cells (.string ⟨#[]⟩)) L.length) 9)) := fun u => by
    have h := run_make (P := Tryz.prog) u 26 9 i0 _ Tryz.underlying26 hi hz0 .i64 .i64 L.length L.length (by omega) (by omega) (by rw [hz2]; omega) (by omega)
    rw [hz1] at h
    simpa using h
  clear hi hz0 hz1 hz2
  have HV := hide hv
  obtain ⟨a, cap, rfl⟩ := hv.form
  clear hv
  cases a with
  | none =>
    have h0 := HV.out.nilN rfl
    obtain rfl := List.eq_nil_of_length_eq_zero h0
    go_enter Tryz.func104, Tryz.ntmps104
    go_wp2
    go_ret
    exact ⟨_, rfl, Below.refl _ _, NRow.nil _ _ _ _ _⟩
  | some ad =>
    obtain ⟨W, hW⟩ : ∃ W, W = w.alloc (.cells (madeCells #[.string ⟨#[]⟩] L.length) 9) := ⟨_, rfl⟩
    have HF : Hid (FR tyL 1 W w.heap.size (w.heap.size + 1) w.heap.size L.length []) := by unfold Hid; rw [hW]; exact fr_new tyL 1 w _ _ L.length (by rw [size_madeCells, Nat.mul_one]) (by unfold maxLen; omega)
    have HB : Hid (Below w.heap.size w W) := by unfold Hid; rw [hW]; exact one_al _ _
    have hwz1 : w.heap.size + 1 ≤ W.heap.size := by rw [hW]; simp
    have HW := hide (HV.out.below HB.out)
    have hlv : (flatV tyL L).length = L.length := by rw [flatV_len tyL_len, Nat.mul_one]
    have hcp : ∀ ty, (Builtin.copy_ #[26, 26] ty #[.slice (some ⟨w.heap.size, 0, none⟩) L.length L.length, .slice (some ad) L.length cap]).run Tryz.prog (w.alloc (.cells (madeCells #[.string ⟨#[]⟩] L.length) 9)) = .ok (goInt (flatV tyL L).length) (W.setCells w.heap.size 0 (flatV tyL L)) := fun ty => by
      rw [← hW]
      exact run_copy_cells (P := Tryz.prog) W 26 26 ty 9 w.heap.size 0 L.length L.length ad L.length cap (flatV tyL L) Tryz.underlying26 sizeTx (by rw [hlv]; exact (Nat.min_self _).symm) (HW.out.src ad rfl) (fun j hj => HF.out.th _ (by omega)) (fun j _ => HF.out.fz _) (tyL_one L)
    have HFn : Hid (FR tyL 1 (W.setCells w.heap.size 0 (flatV tyL L)) w.heap.size (w.heap.size + 1) w.heap.size L.length L) := by
      have := HF.out.put tyL_len (M := L) (by simp)
      unfold Hid
      simpa using this
    have HBn : Hid (Below w.heap.size w (W.setCells w.heap.size 0 (flatV tyL L))) := Below.sets (Nat.le_refl _) _ _ HB.out
    have hsz : (W.setCells w.heap.size 0 (flatV tyL L)).heap.size = W.heap.size := size_sets ..
    clear hW hlv
    generalize World.setCells _ _ _ _ = W2 at *
    go_enter Tryz.func104, Tryz.ntmps104
    go_wp2
    go_ret
    exact ⟨_, rfl, HBn.out, Or.inr ⟨w.heap.size, L.length, rfl, HFn.out.bs, by omega, by omega, HFn.out.le, HFn.out.mx, HFn.out.th, HFn.out.fz, HFn.out.rg⟩⟩
end Go.Proofs.YtfbfgljkiikabaaGreat
namespace Go.Proofs.YtfbfgljkiikabaaGreat
open Go.RowKit Go.Deep

/-! a region that draws, with operations B that break what the loads read (S): whatever is taken first is waited for by all of B -/
section
variable {P : Program} {ops : Array Oper} {Q : Exit → Act → World → Prop} {md : Region.Mode} {S : World → Prop} {B : List Nat}

/-- whatever order is picked, and S holds behind every operation but those of B -/
def wpAnyB (P : Program) (md : Region.Mode) (ops : Array Oper) (Q : Exit → Act → World → Prop) (S : World → Prop) (B : List Nat) : Nat → Array Bool → Act → World → Prop
  | 0, listed, a, w => Region.ready md ops listed = [] ∧ Q .normal a w
  | fuel + 1, listed, a, w =>
    (Region.ready md ops listed = [] → Q .normal a w) ∧
    ∀ i ∈ Region.ready md ops listed, wpOp P ops Q i (fun a' w' => (i ∉ B → S w') ∧ wpAnyB P md ops Q S B fuel (listed.setIfInBounds i true) a' w') a w
theorem wpAny_of_B : ∀ (fuel : Nat) (listed : Array Bool) (a : Act) (w : World), wpAnyB P md ops Q S B fuel listed a w → wpAny P md ops Q fuel listed a w
  | 0, _, _, _, h => h
  | fuel + 1, _, _, _, h => ⟨h.1, fun i hi => wpOp_mono (fun a' w' h' => wpAny_of_B fuel _ a' w' h'.2) (h.2 i hi)⟩
/-- each of D waits for i, or for one of D -/
def waitsB (md : Region.Mode) (ops : Array Oper) (i : Nat) (D : List Nat) : Bool := D.all fun j => match ops[j]? with
  | some oj => oj.after.any fun e => Region.binds md e && ((e.on == i) || D.contains e.on)
  | none => false
theorem waitsB_no {listed : Array Bool} {i : Nat} {D : List Nat} (hD : waitsB md ops i D = true) (hi : listed.getD i true = false) (hun : ∀ j ∈ D, listed.getD j true = false) {j : Nat} (hj : j ∈ Region.ready md ops listed) : j ∉ D := by
  intro hjD
  unfold waitsB at hD
  rw [List.all_eq_true] at hD
  have h1 := hD j hjD
  obtain ⟨-, oj, hoj, hall⟩ := mem_ready.1 hj
  rw [hoj] at h1
  simp only [Array.any_eq_true] at h1
  obtain ⟨k, hk, he⟩ := h1
  rw [Bool.and_eq_true, Bool.or_eq_true, beq_iff_eq] at he
  have h2 := hall _ (Array.getElem_mem hk) he.1
  have h3 : listed.getD (oj.after[k]).on true = false := by
    rcases he.2 with h | h
    · rw [h]; exact hi
    · exact hun _ (by simpa using h)
  rcases Nat.lt_or_ge (oj.after[k]).on listed.size with h' | h'
  · simp [h'] at h2 h3; rw [h3] at h2; cases h2
  · simp [Array.getElem?_eq_none h'] at h2
theorem wpAnyB_first {i : Nat} {oi : Oper} {v : Value} {D : List Nat} (hi : ops[i]? = some oi) (hsel : ∀ (j : Nat) (o : Oper) cs b, ops[j]? = some o → o.op ≠ .select cs b)
    (hQ : ∀ c a w, Q (.panic c) (a.put oi.dst v) w → Q (.panic c) a w) (hD : waitsB md ops i D = true) (hl : ∀ b ∈ B, b ∈ D) (hil : i ∉ B) (hiD : i ∉ D) :
    ∀ (fuel : Nat) (listed : Array Bool) (a : Act) (w : World),
      (∀ j oj, ops[j]? = some oj → j ≠ i → listed.getD j true = false → (∀ e ∈ oj.after, Region.binds md e = true → e.on ≠ i) → oi.apart ops oj = true) →
      (∀ j ∈ D, listed.getD j true = false) →
      i ∈ Region.ready md ops listed → YieldsIf P ops S oi v a → S w →
      wpAnyB P md ops Q S B fuel (listed.setIfInBounds i true) (a.put oi.dst v) w → wpAnyB P md ops Q S B (fuel + 1) listed a w := by
  intro fuel
  induction fuel with
  | zero =>
    intro listed a w _ _ hr hy hS H
    refine ⟨fun h => (by rw [h] at hr; cases hr), fun j hj => ?_⟩
    by_cases hji : j = i
    · subst hji; exact hy.wpOp hi hS ⟨fun _ => hS, H⟩
    · have := ready_mono hj hji
      rw [H.1] at this
      cases this
  | succ fuel ih =>
    intro listed a w hfree hun hr hy hS H
    refine ⟨fun h => (by rw [h] at hr; cases hr), fun j hj => ?_⟩
    by_cases hji : j = i
    · subst hji; exact hy.wpOp hi hS ⟨fun _ => hS, H⟩
    · have hjD : j ∉ D := waitsB_no hD (mem_ready.1 hr).1 hun hj
      have hjl : j ∉ B := fun e => hjD (hl j e)
      have h1 := H.2 j (ready_mono hj hji)
      obtain ⟨hjun, oj, hoj, hall⟩ := mem_ready.1 hj
      have hnot : ∀ e ∈ oj.after, Region.binds md e = true → e.on ≠ i := fun e he hb heq => by
        have h1 := hall e he hb
        have h0 := (mem_ready.1 hr).1
        rw [heq] at h1
        rcases Nat.lt_or_ge i listed.size with h' | h'
        · simp [h'] at h0 h1; rw [h0] at h1; cases h1
        · simp [Array.getElem?_eq_none h'] at h1
      have h2 := wpOp_putIf hoj (hfree j oj hoj hji hjun hnot) (fun cs b => hsel i oi cs b hi) (fun cs b => hsel j oj cs b hoj) hQ hy h1
      have hfree' : ∀ k ok, ops[k]? = some ok → k ≠ i → (listed.setIfInBounds j true).getD k true = false →
          (∀ e ∈ ok.after, Region.binds md e = true → e.on ≠ i) → oi.apart ops ok = true := fun k ok hk hki hun hno => by
        refine hfree k ok hk hki ?_ hno
        by_cases hjk : j = k
        · subst hjk; exact hjun
        · rw [getD_set_ne true hjk] at hun; exact hun
      have hun' : ∀ k ∈ D, (listed.setIfInBounds j true).getD k true = false := fun k hk => by
        rw [getD_set_ne true (fun e => hjD (by rw [e]; exact hk))]
        exact hun k hk
      refine wpOp_mono (fun a' w' h3 => ⟨h3.2.1, ih (listed.setIfInBounds j true) a' w' hfree' hun' (ready_mono hr (Ne.symm hji)) h3.1 (h3.2.1 hjl) ?_⟩) h2
      rw [Array.setIfInBounds_comm _ _ hji]
      exact h3.2.2
theorem wpAnyB_take (D : List Nat) {i : Nat} {oi : Oper} {v : Value} {fuel : Nat} {listed : Array Bool} {a : Act} {w : World} (hi : ops[i]? = some oi)
    (hs : Region.noSelect ops = true) (hf : Region.free md ops listed i = true) (hr : (Region.ready md ops listed).contains i = true)
    (hD : (waitsB md ops i D && (B.all fun b => D.contains b) && !(B.contains i) && !D.contains i && D.all fun j => !listed.getD j true) = true)
    (hQ : ∀ c a w, Q (.panic c) (a.put oi.dst v) w → Q (.panic c) a w) (hy : YieldsIf P ops S oi v a) (hS : S w)
    (h : wpAnyB P md ops Q S B fuel (listed.setIfInBounds i true) (a.put oi.dst v) w) : wpAnyB P md ops Q S B (fuel + 1) listed a w := by
  simp only [Bool.and_eq_true, Bool.not_eq_true', List.all_eq_true] at hD
  obtain ⟨⟨⟨⟨h1, h2⟩, h3⟩, h4⟩, h5⟩ := hD
  exact wpAnyB_first hi (Region.noSelect_spec hs) hQ h1 (fun b hb => by simpa using h2 b hb) (by simpa using h3) (by simpa using h4) fuel listed a w (Region.free_spec hi hf) h5 (by simpa using hr) hy hS h
/-- one operation comes up -/
theorem wpAnyB_one {i : Nat} {o : Oper} {fuel : Nat} {listed : Array Bool} {a : Act} {w : World} (hr : Region.ready md ops listed = [i]) (ho : ops[i]? = some o)
    (h : ∀ K' : Act → World → Prop, Shut (∀ a w, (i ∉ B → S w) → ((i ∉ B → S w) → wpAnyB P md ops Q S B fuel (listed.setIfInBounds i true) a w) → K' a w) → if Region.wanted o (yielded ops a.tmps) = true then Oper.wp P o a w K' Q else K' (a.put o.dst undef) w) : wpAnyB P md ops Q S B (fuel + 1) listed a w := by
  refine ⟨fun h0 => (by rw [hr] at h0; cases h0), fun j hj => ?_⟩
  rw [hr] at hj
  have := List.mem_singleton.1 hj
  subst this
  exact wpOp_step ho fun K' hK => h K' fun a w hS hW => hK a w ⟨hS, hW hS⟩
theorem wpAnyB_two {i i' : Nat} {o o' : Oper} {fuel : Nat} {listed : Array Bool} {a : Act} {w : World} (hr : Region.ready md ops listed = [i, i']) (ho : ops[i]? = some o) (ho' : ops[i']? = some o')
    (h : ∀ K' : Act → World → Prop, Shut (∀ a w, (i ∉ B → S w) → ((i ∉ B → S w) → wpAnyB P md ops Q S B fuel (listed.setIfInBounds i true) a w) → K' a w) → if Region.wanted o (yielded ops a.tmps) = true then Oper.wp P o a w K' Q else K' (a.put o.dst undef) w)
    (h' : ∀ K' : Act → World → Prop, Shut (∀ a w, (i' ∉ B → S w) → ((i' ∉ B → S w) → wpAnyB P md ops Q S B fuel (listed.setIfInBounds i' true) a w) → K' a w) → if Region.wanted o' (yielded ops a.tmps) = true then Oper.wp P o' a w K' Q else K' (a.put o'.dst undef) w) : wpAnyB P md ops Q S B (fuel + 1) listed a w := by
  refine ⟨fun h0 => (by rw [hr] at h0; cases h0), fun j hj => ?_⟩
  rw [hr] at hj
  rcases List.mem_cons.1 hj with rfl | hj
  · exact wpOp_step ho fun K' hK => h K' fun a w hS hW => hK a w ⟨hS, hW hS⟩
  · have := List.mem_singleton.1 hj
    subst this
    exact wpOp_step ho' fun K' hK => h' K' fun a w hS hW => hK a w ⟨hS, hW hS⟩
theorem wpAnyB_done {listed : Array Bool} {a : Act} {w : World} (hr : Region.ready md ops listed = []) (h : Q .normal a w) : ∀ fuel, wpAnyB P md ops Q S B fuel listed a w
  | 0 => ⟨hr, h⟩
  | _ + 1 => ⟨fun _ => h, by rw [hr]; simp⟩
theorem wp_region_B (B : List Nat) {id : Nat} {a : Act} {w : World} (hm : P.follows .mixedOrders = true) (hS : S w.drew)
    (h : S w.drew → wpAnyB P .any ops Q S B ops.size (Array.replicate ops.size false) a w.drew) : (Code.region id ops true).wp P Q a w :=
  wp_region_any hm (wpAny_of_B _ _ _ _ (h hS))
end
end Go.Proofs.YtfbfgljkiikabaaGreat
