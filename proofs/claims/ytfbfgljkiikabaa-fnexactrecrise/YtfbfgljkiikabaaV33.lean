import Derived.Test.YtfbfgljkiikabaaV29
import Derived.Test.YtfbfgljkiikabaaV32
import Derived.Laws.IdiomCopy
namespace Go.Proofs.Ytfbfgljkiikabaa
open Go.RowKit Go.Deep

/-- sizes of what a recorder holds -/
structure RrZ (U : Rr) : Prop where
  z0 : ∀ i (h : i < U.sf.sl.length), RsSize U.sf.sl[i]
  z1 : ∀ i (h : i < U.dk.sl.length), RsSize U.dk.sl[i]
  z2 : ∀ i (h : i < U.he.length), (∀ j (hj : j < U.he[i].sl.length), RsSize U.he[i].sl[j]) ∧ U.he[i].tx.size ≤ maxLen
  z3 : ∀ i (h : i < U.wi.length), U.wi[i].size ≤ maxLen
  z5 : ∀ i (h : i < U.be.length), RsSize U.be[i]
theorem RrC.sizes {lo : Nat} {w : World} {cs : List Value} {U : Rr} (h : RrC lo w cs U) : RrZ U := by
  obtain ⟨_, _, _, _, _, _, _, _, _, _, _, _, _, _, -, h⟩ := h
  exact ⟨h.l0.sizes, h.l1.sizes, h.l2.sizes, h.l3.sizes, h.l5.sizes⟩
theorem Cpy.at {w : World} {lo : Nat} {c : Nat → Nat × Nat} {v0 v1 v2 v3 v4 v5 v6 : Value} {U : Rr} (h : Cpy w lo c v0 v1 v2 v3 v4 v5 v6 U) (hz : RrZ U) : RrAt lo w v0 v1 v2 v3 v4 v5 v6 U := by
  obtain ⟨g2, L2, hm, hL2⟩ := h.o2
  obtain ⟨g6, L6, ha, hL6⟩ := h.o6
  exact ⟨(h.o0.rss hz.z0).at.mono (h.seg 0 (by decide)).1, (h.o1.rss hz.z1).at.mono (h.seg 1 (by decide)).1, (hm.rms hL2 hz.z2).mono (h.seg 2 (by decide)).1, (h.o3.rts hz.z3).at.mono (h.seg 3 (by decide)).1, h.o4.ris.at.mono (h.seg 4 (by decide)).1, (h.o5.rss hz.z5).at.mono (h.seg 5 (by decide)).1, (ha.ras hL6).mono (h.seg 6 (by decide)).1⟩
theorem Cpy.below {w w' : World} {lo : Nat} {c : Nat → Nat × Nat} {v0 v1 v2 v3 v4 v5 v6 : Value} {U : Rr} (h : Cpy w lo c v0 v1 v2 v3 v4 v5 v6 U) (hb : Below w.heap.size w w') : Cpy w' lo c v0 v1 v2 v3 v4 v5 v6 U := by
  obtain ⟨g2, L2, hm, hL2⟩ := h.o2
  obtain ⟨g6, L6, ha, hL6⟩ := h.o6
  exact ⟨fun i hi => ⟨(h.seg i hi).1, Nat.le_trans (h.seg i hi).2 hb.size⟩, h.ap, h.o0.below hb, h.o1.below hb, ⟨g2, L2, hm.below hb, hL2⟩, h.o3.below hb, h.o4.below hb, h.o5.below hb, ⟨g6, L6, ha.below hb, hL6⟩⟩
/-- a text among slots that were taken -/
def hasSl (L : List Rs) (tx : ByteArray) : Bool := L.any (fun x => decide (0 < x.ba) && (x.tx.toList == tx.toList))
theorem any_yes {X : Type} {L : List X} {f : X → Bool} {k : Nat} (hk : k < L.length) (h : f L[k] = true) : L.any f = true := by
  rw [List.any_eq_true]
  exact ⟨L[k], List.getElem_mem hk, h⟩
theorem any_no {X : Type} {L : List X} {f : X → Bool} (h : ∀ i (h : i < L.length), f L[i] = false) : L.any f = false := by
  rw [List.any_eq_false]
  intro x hx
  obtain ⟨i, hi, rfl⟩ := List.getElem_of_mem hx
  rw [h i hi]; simp

end Go.Proofs.Ytfbfgljkiikabaa
namespace Go.Proofs.Ytfbfgljkiikabaa
open Go.RowKit Go.Deep

/-- a recorder that can be changed: each list in a row that grows or is nil, in a part of memory of its own -/
structure Cpn (w : World) (lo : Nat) (c : Nat → Nat × Nat) (v0 v1 v2 v3 v4 v5 v6 : Value) (U : Rr) : Prop where
  seg : ∀ i, i < 7 → lo ≤ (c i).1 ∧ (c i).2 ≤ w.heap.size
  ap : ∀ i j, i < 7 → j < 7 → i ≠ j → (c i).2 ≤ (c j).1 ∨ (c j).2 ≤ (c i).1
  o0 : NRow rsL 2 w (c 0).1 (c 0).2 v0 U.sf.sl
  o1 : NRow rsL 2 w (c 1).1 (c 1).2 v1 U.dk.sl
  o2 : ∃ L, NGRow PM mxL 8 w (c 2).1 (c 2).2 v2 L ∧ L.map (·.1) = U.he
  o3 : NRow tyL 1 w (c 3).1 (c 3).2 v3 U.wi
  o4 : NRow inL 1 w (c 4).1 (c 4).2 v4 U.ye
  o5 : NRow rsL 2 w (c 5).1 (c 5).2 v5 U.be
  o6 : ∃ L, NGRow PA axL 2 w (c 6).1 (c 6).2 v6 L ∧ L.map (·.1) = U.ac
theorem Cpn.below {w w' : World} {lo : Nat} {c : Nat → Nat × Nat} {v0 v1 v2 v3 v4 v5 v6 : Value} {U : Rr} (h : Cpn w lo c v0 v1 v2 v3 v4 v5 v6 U) (hb : Below w.heap.size w w') : Cpn w' lo c v0 v1 v2 v3 v4 v5 v6 U := by
  obtain ⟨L2, h2, e2⟩ := h.o2
  obtain ⟨L6, h6, e6⟩ := h.o6
  exact ⟨fun i hi => ⟨(h.seg i hi).1, Nat.le_trans (h.seg i hi).2 hb.size⟩, h.ap, h.o0.below hb, h.o1.below hb, ⟨L2, h2.below cloM hb, e2⟩, h.o3.below hb, h.o4.below hb, h.o5.below hb, ⟨L6, h6.below cloA hb, e6⟩⟩
/-- what is touched lies apart from all parts -/
theorem Cpn.touch {w w' : World} {lo lo' hi' : Nat} {c : Nat → Nat × Nat} {v0 v1 v2 v3 v4 v5 v6 : Value} {U : Rr} (h : Cpn w lo c v0 v1 v2 v3 v4 v5 v6 U) (ht : Touch lo' hi' w w') (ho : ∀ i, i < 7 → (c i).2 ≤ lo' ∨ hi' ≤ (c i).1) : Cpn w' lo c v0 v1 v2 v3 v4 v5 v6 U := by
  obtain ⟨L2, h2, e2⟩ := h.o2
  obtain ⟨L6, h6, e6⟩ := h.o6
  exact ⟨fun i hi => ⟨(h.seg i hi).1, Nat.le_trans (h.seg i hi).2 ht.size⟩, h.ap, h.o0.touch ht (ho 0 (by decide)), h.o1.touch ht (ho 1 (by decide)), ⟨L2, h2.touch cloM ht (ho 2 (by decide)), e2⟩, h.o3.touch ht (ho 3 (by decide)), h.o4.touch ht (ho 4 (by decide)), h.o5.touch ht (ho 5 (by decide)), ⟨L6, h6.touch cloA ht (ho 6 (by decide)), e6⟩⟩
theorem Cpn.low {w : World} {lo lo' : Nat} {c : Nat → Nat × Nat} {v0 v1 v2 v3 v4 v5 v6 : Value} {U : Rr} (h : Cpn w lo c v0 v1 v2 v3 v4 v5 v6 U) (hl : lo' ≤ lo) : Cpn w lo' c v0 v1 v2 v3 v4 v5 v6 U :=
  ⟨fun i hi => ⟨Nat.le_trans hl (h.seg i hi).1, (h.seg i hi).2⟩, h.ap, h.o0, h.o1, h.o2, h.o3, h.o4, h.o5, h.o6⟩
theorem Cpn.own {w : World} {lo : Nat} {c : Nat → Nat × Nat} {v0 v1 v2 v3 v4 v5 v6 : Value} {U : Rr} (h : Cpn w lo c v0 v1 v2 v3 v4 v5 v6 U) (hz : RrZ U) : RrO lo w.heap.size w c v0 v1 v2 v3 v4 v5 v6 U := by
  obtain ⟨L2, h2, e2⟩ := h.o2
  obtain ⟨L6, h6, e6⟩ := h.o6
  exact ⟨h.seg, h.ap, h.o0.rss hz.z0, h.o1.rss hz.z1, h2.rms e2 hz.z2, h.o3.rts hz.z3, h.o4.ris, h.o5.rss hz.z5, h6.ras e6⟩
end Go.Proofs.Ytfbfgljkiikabaa
namespace Go.Proofs.Ytfbfgljkiikabaa
open Go.RowKit Go.Deep

set_option maxRecDepth 20000 in
set_option maxHeartbeats 8000000 in
theorem copyMsg_any (lo : Nat) (M : Rm) (a : Option Addr) (c : Nat) (w : World) (hv : RssAt lo w (.slice a M.sl.length c) M.sl) (hn : M.sl.length ≤ 1048576) :
    Calls Try.prog 82 #[.agg (rmL M a c).toArray] w fun e w' => ∃ b m, e = .returned (.agg (rmL M b m).toArray) ∧ Below w.heap.size w w' ∧ NRow rsL 2 w' w.heap.size w'.heap.size (.slice b M.sl.length m) M.sl := by
  have HV := hide hv
  clear hv
  show Calls Try.prog 82 #[.agg #[.int .i64 M.kd, .int .i64 M.fr, .int .i64 M.tt, .int .i64 M.ba, .int .i64 M.ix, .int .i64 M.kn, .string M.tx, .slice a M.sl.length c]] w _
  go_enter Try.func82, Try.ntmps82
  go_wp2_with fail
  obtain ⟨wz, hwz, FX, FR, HB⟩ : ∃ wz, wz = (w.alloc (.cells #[.int .i64 M.kd, .int .i64 M.fr, .int .i64 M.tt, .int .i64 M.ba, .int .i64 M.ix, .int .i64 M.kn, .string M.tx, .slice a M.sl.length c] 92)).alloc (.cells #[.int .i64 0, .int .i64 0, .int .i64 0, .int .i64 0, .int .i64 0, .int .i64 0, .string ⟨#[]⟩, .slice none 0 0] 92) ∧
      Hid (Box wz w.heap.size #[.int .i64 M.kd, .int .i64 M.fr, .int .i64 M.tt, .int .i64 M.ba, .int .i64 M.ix, .int .i64 M.kn, .string M.tx, .slice a M.sl.length c]) ∧ Hid (Box wz (w.heap.size + 1) #[.int .i64 0, .int .i64 0, .int .i64 0, .int .i64 0, .int .i64 0, .int .i64 0, .string ⟨#[]⟩, .slice none 0 0]) ∧ Hid (Below w.heap.size w wz) :=
    ⟨_, rfl, (Box.new w _ _ _ rfl).on (one_al _ _), Box.new _ _ _ _ (by simp), (one_al _ _).trans ((one_al _ _).mono (by simp))⟩
  rw [← hwz]
  clear hwz
  have hz0 : w.heap.size + 2 ≤ wz.heap.size := by have := FR.out.lt; omega
  refine (copySl_any lo _ M.sl _ (HV.out.below HB.out) hn).mono ?_
  rintro e x0 ⟨u, rfl, hb, hs⟩
  obtain ⟨b0, m0, rfl⟩ := hs.form
  have hx0 : wz.heap.size ≤ x0.heap.size := hb.size
  have N0 : Hid (NRow rsL 2 x0 wz.heap.size x0.heap.size (.slice b0 M.sl.length m0) M.sl) := hs
  replace FX := hide (FX.out.on hb)
  replace FR := hide (FR.out.on hb)
  replace HB := hide (bt HB.out hb)
  clear hb hs
  have g0 := FX.out.cell
  have g1 := FX.out.free
  have g2 := FR.out.cell
  have g3 := FR.out.free
  go_wp2
  refine bodyPost_ret (v := .agg (rmL M b0 m0).toArray) (by simp [results, Try.results82, go_sem, g2, rmL]) rfl ⟨b0, m0, rfl, ?_, ?_⟩
  · repeat (refine Below.setCell ?_ (by simp only []; omega) _)
    exact HB.out
  · refine NRow.wide (lo := wz.heap.size) (hi := x0.heap.size) ?_ (by omega) (by simp [World.setCell])
    repeat (refine NRow.set ?_ (by simp only []; omega) _)
    exact N0.out
set_option maxRecDepth 20000 in
set_option maxHeartbeats 8000000 in
theorem copyAck_any (lo : Nat) (X : Ra) (a : Option Addr) (c : Nat) (w : World) (hv : RisAt lo w (.slice a X.fr.length c) X.fr) (hn : X.fr.length ≤ 1048576) :
    Calls Try.prog 85 #[.agg (raL X a c).toArray] w fun e w' => ∃ b m, e = .returned (.agg (raL X b m).toArray) ∧ Below w.heap.size w w' ∧ NRow inL 1 w' w.heap.size w'.heap.size (.slice b X.fr.length m) X.fr := by
  have HV := hide hv
  clear hv
  show Calls Try.prog 85 #[.agg #[.int .i64 X.ix, .slice a X.fr.length c]] w _
  go_enter Try.func85, Try.ntmps85
  go_wp2_with (at_builtin; refine Hid.out ?_)
  obtain ⟨wz, hwz, FX, FR, HB⟩ : ∃ wz, wz = (w.alloc (.cells #[.int .i64 X.ix, .slice a X.fr.length c] 100)).alloc (.cells #[.int .i64 0, .slice none 0 0] 100) ∧
      Hid (Box wz w.heap.size #[.int .i64 X.ix, .slice a X.fr.length c]) ∧ Hid (Box wz (w.heap.size + 1) #[.int .i64 0, .slice none 0 0]) ∧ Hid (Below w.heap.size w wz) :=
    ⟨_, rfl, (Box.new w _ _ _ rfl).on (one_al _ _), Box.new _ _ _ _ (by simp), (one_al _ _).trans ((one_al _ _).mono (by simp))⟩
  rw [← hwz]
  clear hwz
  have hz0 : w.heap.size + 2 ≤ wz.heap.size := by have := FR.out.lt; omega
  have HW := hide (HV.out.below HB.out)
  refine hide ?_
  refine wpList_nr inL_len (by decide) Try.underlying29 infoIn rfl (w := wz) (lo := wz.heap.size) (hi' := wz.heap.size) (L := []) X.fr rfl (.const (.slice none 0 0)) (.tmp 4) rfl rfl (NRow.nil _ _ _ _ _) a X.fr.length c rfl rfl (fun e => HW.out.nilN e) HW.out.src (inL_one _) (by simp; omega) (by decide) ?_
  intro u x0 h1 h2
  have hb : Below wz.heap.size wz x0 := h1.none (Nat.le_refl _)
  rw [List.nil_append] at h2
  have hs := NRow.freshB h2 h1.size
  obtain ⟨b0, m0, rfl⟩ := hs.form
  have hx0 : wz.heap.size ≤ x0.heap.size := hb.size
  have N0 := hide hs
  replace FX := hide (FX.out.on hb)
  replace FR := hide (FR.out.on hb)
  replace HB := hide (bt HB.out hb)
  clear hb h1 h2 hs HW
  have g0 := FX.out.cell
  have g1 := FX.out.free
  have g2 := FR.out.cell
  have g3 := FR.out.free
  go_wp2
  refine bodyPost_ret (v := .agg (raL X b0 m0).toArray) (by simp [results, Try.results85, go_sem, g2, raL]) rfl ⟨b0, m0, rfl, ?_, ?_⟩
  · repeat (refine Below.setCell ?_ (by simp only []; omega) _)
    exact HB.out
  · refine NRow.wide (lo := wz.heap.size) (hi := x0.heap.size) ?_ (by omega) (by simp [World.setCell])
    repeat (refine NRow.set ?_ (by simp only []; omega) _)
    exact N0.out
theorem sizeTx : (Try.prog.info? 9).map (·.size) = some 1 := by kernel_rfl
set_option maxRecDepth 20000 in
set_option maxHeartbeats 8000000 in
theorem copyTx_any (lo : Nat) (v : Value) (L : List ByteArray) (w : World) (hv : RtsAt lo w v L) (hn : L.length ≤ 1048576) :
    Calls Try.prog 83 #[v] w fun e w' => ∃ v', e = .returned v' ∧ Below w.heap.size w w' ∧ NRow tyL 1 w' w.heap.size w'.heap.size v' L := by
  have hnil := fun W a n c => Lib.run_eql_slice_nil (P := Try.prog) W 28 9 a n c 0 0 Try.underlying28
  obtain ⟨i0, hi, hz0, hz1, hz2⟩ := info_parts infoTx
  have hmk : ∀ u : World, (Instr.makeSlice 28 (.int .i64 (L.length : Int)) (.int .i64 (L.length : Int))).run Try.prog u = .ok (.slice (some ⟨u.heap.size, 0, none⟩) L.length L.length) (u.alloc (.cells (madeCells (Value.cells (.string ⟨#[]⟩)) L.length) 9)) := fun u => by
    have h := run_make (P := Try.prog) u 28 9 i0 _ Try.underlying28 hi hz0 .i64 .i64 L.length L.length (by omega) (by omega) (by rw [hz2]; omega) (by omega)
    rw [hz1] at h
    simpa using h
  clear hi hz0 hz1 hz2
  have HV := hide hv
  obtain ⟨a, cap, rfl⟩ := hv.form
  clear hv
  cases a with
  | none =>
    have h0 := HV.out.nilN rfl
    obtain rfl := List.eq_nil_of_length_eq_zero h0
    go_enter Try.func83, Try.ntmps83
    go_wp2
    go_ret
    exact ⟨_, rfl, Below.refl _ _, NRow.nil _ _ _ _ _⟩
  | some ad =>
    obtain ⟨W, hW⟩ : ∃ W, W = w.alloc (.cells (madeCells #[.string ⟨#[]⟩] L.length) 9) := ⟨_, rfl⟩
    have HF : Hid (FR tyL 1 W w.heap.size (w.heap.size + 1) w.heap.size L.length []) := by unfold Hid; rw [hW]; exact fr_new tyL 1 w _ _ L.length (by rw [size_madeCells, Nat.mul_one]) (by unfold maxLen; omega)
    have HB : Hid (Below w.heap.size w W) := by unfold Hid; rw [hW]; exact one_al _ _
    have hwz1 : w.heap.size + 1 ≤ W.heap.size := by rw [hW]; simp
    have HW := hide (HV.out.below HB.out)
    have hlv : (flatV tyL L).length = L.length := by rw [flatV_len tyL_len, Nat.mul_one]
    have hcp : ∀ ty, (Builtin.copy_ #[28, 28] ty #[.slice (some ⟨w.heap.size, 0, none⟩) L.length L.length, .slice (some ad) L.length cap]).run Try.prog (w.alloc (.cells (madeCells #[.string ⟨#[]⟩] L.length) 9)) = .ok (goInt (flatV tyL L).length) (W.setCells w.heap.size 0 (flatV tyL L)) := fun ty => by
      rw [← hW]
      exact run_copy_cells (P := Try.prog) W 28 28 ty 9 w.heap.size 0 L.length L.length ad L.length cap (flatV tyL L) Try.underlying28 sizeTx (by rw [hlv]; exact (Nat.min_self _).symm) (HW.out.src ad rfl) (fun j hj => HF.out.th _ (by omega)) (fun j _ => HF.out.fz _) (tyL_one L)
    have HFn : Hid (FR tyL 1 (W.setCells w.heap.size 0 (flatV tyL L)) w.heap.size (w.heap.size + 1) w.heap.size L.length L) := by
      have := HF.out.put tyL_len (M := L) (by simp)
      unfold Hid
      simpa using this
    have HBn : Hid (Below w.heap.size w (W.setCells w.heap.size 0 (flatV tyL L))) := Below.sets (Nat.le_refl _) _ _ HB.out
    have hsz : (W.setCells w.heap.size 0 (flatV tyL L)).heap.size = W.heap.size := size_sets ..
    clear hW hlv
    generalize World.setCells _ _ _ _ = W2 at *
    go_enter Try.func83, Try.ntmps83
    go_wp2
    go_ret
    exact ⟨_, rfl, HBn.out, Or.inr ⟨w.heap.size, L.length, rfl, HFn.out.bs, by omega, by omega, HFn.out.le, HFn.out.mx, HFn.out.th, HFn.out.fz, HFn.out.rg⟩⟩
end Go.Proofs.Ytfbfgljkiikabaa
namespace Go.Proofs.Ytfbfgljkiikabaa
open Go.ChangeShapes Go.WideShapes Go.ChangeAt Go.RowKit Go.Deep
theorem Try.cells24 : Try.prog.cellsOf 24 = 1 := by kernel_rfl
theorem Try.cells26 : Try.prog.cellsOf 26 = 3 := by kernel_rfl
theorem lstRd {l : List Value} (h : l.length = 3) : ∃ c0 c1 c2, l = [c0, c1, c2] := by
  match l, h with
  | [c0, c1, c2], _ => exact ⟨c0, c1, c2, rfl⟩
section
variable {H : Type} {enc : TypeId × Value → H} {W : World}
set_option maxRecDepth 100000 in
theorem open_Rd0 {fuel : Nat} {cs : List Value} {x : DataW H × List MemPlace} (h : DataW.trod enc Try.prog W 0 (fun _ => true) true fuel 26 cs = some x) : ∃ U, RdC 0 W cs U := by
  obtain ⟨xs, n, _, _, hl, hlen, hfld⟩ := DataW.trod_struct Try.underlying26 h
  obtain ⟨c0, c1, c2, rfl⟩ := lstRd (hl.trans Try.cells26)
  simp only [Array.size, List.length_cons, List.length_nil] at hlen
  have g0 : DataW.trod enc Try.prog W 0 (fun _ => true) true n 3 ((([c0, c1, c2] : List Value).drop 0).take (Try.prog.cellsOf 3)) = xs[0]? := hfld 0 _ rfl
  have g1 : DataW.trod enc Try.prog W 0 (fun _ => true) true n 3 ((([c0, c1, c2] : List Value).drop 1).take (Try.prog.cellsOf 3)) = xs[1]? := hfld 1 _ rfl
  have g2 : DataW.trod enc Try.prog W 0 (fun _ => true) true n 24 ((([c0, c1, c2] : List Value).drop 2).take (Try.prog.cellsOf 24)) = xs[2]? := hfld 2 _ rfl
  simp only [Try.cells3, Try.cells24, List.drop_succ_cons, List.drop_zero, List.take_succ_cons, List.take_zero] at g0 g1 g2
  rw [List.getElem?_eq_getElem (by omega)] at g0 g1 g2
  obtain ⟨q0, e0, _, _⟩ := DataW.trod_int Try.underlying3 g0
  simp only [List.cons.injEq, and_true] at e0
  subst e0
  obtain ⟨q1, e1, _, _⟩ := DataW.trod_int Try.underlying3 g1
  simp only [List.cons.injEq, and_true] at e1
  subst e1
  obtain ⟨q2, h2⟩ := open_Rss g2
  obtain ⟨a0, k0, rfl⟩ := h2.form
  exact ⟨⟨q0, q1, q2⟩, a0, k0, rfl, ⟨h2⟩⟩
set_option maxRecDepth 100000 in
theorem open_Rd {r : Reach} {b0 : Nat} {v : Value} {d : DataW H} {p : List MemPlace} (hv : Value.okWide Try.prog W r b0 26 v) (h : DataW.Trod enc Try.prog W 0 (fun _ => true) true 26 v d p) : ∃ (cs : List Value) (U : Rd), v = .agg cs.toArray ∧ RdC 0 W cs U := by
  obtain ⟨cs, rfl, hsz⟩ := okWide_struct Try.underlying26 hv
  obtain ⟨fuel, hf⟩ := h
  obtain ⟨U, hU⟩ := open_Rd0 (cs := cs.toList) hf
  exact ⟨cs.toList, U, rfl, hU⟩
end
theorem Try.cells81 : Try.prog.cellsOf 81 = 8 := by kernel_rfl
theorem lstRm {l : List Value} (h : l.length = 8) : ∃ c0 c1 c2 c3 c4 c5 c6 c7, l = [c0, c1, c2, c3, c4, c5, c6, c7] := by
  match l, h with
  | [c0, c1, c2, c3, c4, c5, c6, c7], _ => exact ⟨c0, c1, c2, c3, c4, c5, c6, c7, rfl⟩
section
variable {H : Type} {enc : TypeId × Value → H} {W : World}
set_option maxRecDepth 100000 in
theorem open_Rm0 {fuel : Nat} {cs : List Value} {x : DataW H × List MemPlace} (h : DataW.trod enc Try.prog W 0 (fun _ => true) true fuel 81 cs = some x) : ∃ U, RmC 0 W cs U := by
  obtain ⟨xs, n, _, _, hl, hlen, hfld⟩ := DataW.trod_struct Try.underlying81 h
  obtain ⟨c0, c1, c2, c3, c4, c5, c6, c7, rfl⟩ := lstRm (hl.trans Try.cells81)
  simp only [Array.size, List.length_cons, List.length_nil] at hlen
  have g0 : DataW.trod enc Try.prog W 0 (fun _ => true) true n 3 ((([c0, c1, c2, c3, c4, c5, c6, c7] : List Value).drop 0).take (Try.prog.cellsOf 3)) = xs[0]? := hfld 0 _ rfl
  have g1 : DataW.trod enc Try.prog W 0 (fun _ => true) true n 3 ((([c0, c1, c2, c3, c4, c5, c6, c7] : List Value).drop 1).take (Try.prog.cellsOf 3)) = xs[1]? := hfld 1 _ rfl
  have g2 : DataW.trod enc Try.prog W 0 (fun _ => true) true n 3 ((([c0, c1, c2, c3, c4, c5, c6, c7] : List Value).drop 2).take (Try.prog.cellsOf 3)) = xs[2]? := hfld 2 _ rfl
  have g3 : DataW.trod enc Try.prog W 0 (fun _ => true) true n 3 ((([c0, c1, c2, c3, c4, c5, c6, c7] : List Value).drop 3).take (Try.prog.cellsOf 3)) = xs[3]? := hfld 3 _ rfl
  have g4 : DataW.trod enc Try.prog W 0 (fun _ => true) true n 3 ((([c0, c1, c2, c3, c4, c5, c6, c7] : List Value).drop 4).take (Try.prog.cellsOf 3)) = xs[4]? := hfld 4 _ rfl
  have g5 : DataW.trod enc Try.prog W 0 (fun _ => true) true n 3 ((([c0, c1, c2, c3, c4, c5, c6, c7] : List Value).drop 5).take (Try.prog.cellsOf 3)) = xs[5]? := hfld 5 _ rfl
  have g6 : DataW.trod enc Try.prog W 0 (fun _ => true) true n 9 ((([c0, c1, c2, c3, c4, c5, c6, c7] : List Value).drop 6).take (Try.prog.cellsOf 9)) = xs[6]? := hfld 6 _ rfl
  have g7 : DataW.trod enc Try.prog W 0 (fun _ => true) true n 24 ((([c0, c1, c2, c3, c4, c5, c6, c7] : List Value).drop 7).take (Try.prog.cellsOf 24)) = xs[7]? := hfld 7 _ rfl
  simp only [Try.cells3, Try.cells9, Try.cells24, List.drop_succ_cons, List.drop_zero, List.take_succ_cons, List.take_zero] at g0 g1 g2 g3 g4 g5 g6 g7
  rw [List.getElem?_eq_getElem (by omega)] at g0 g1 g2 g3 g4 g5 g6 g7
  obtain ⟨q0, e0, _, _⟩ := DataW.trod_int Try.underlying3 g0
  simp only [List.cons.injEq, and_true] at e0
  subst e0
  obtain ⟨q1, e1, _, _⟩ := DataW.trod_int Try.underlying3 g1
  simp only [List.cons.injEq, and_true] at e1
  subst e1
  obtain ⟨q2, e2, _, _⟩ := DataW.trod_int Try.underlying3 g2
  simp only [List.cons.injEq, and_true] at e2
  subst e2
  obtain ⟨q3, e3, _, _⟩ := DataW.trod_int Try.underlying3 g3
  simp only [List.cons.injEq, and_true] at e3
  subst e3
  obtain ⟨q4, e4, _, _⟩ := DataW.trod_int Try.underlying3 g4
  simp only [List.cons.injEq, and_true] at e4
  subst e4
  obtain ⟨q5, e5, _, _⟩ := DataW.trod_int Try.underlying3 g5
  simp only [List.cons.injEq, and_true] at e5
  subst e5
  obtain ⟨q6, e6, _, t6⟩ := DataW.trod_string Try.underlying9 g6
  simp only [List.cons.injEq, and_true] at e6
  subst e6
  obtain ⟨q7, h7⟩ := open_Rss g7
  obtain ⟨a0, k0, rfl⟩ := h7.form
  exact ⟨⟨q0, q1, q2, q3, q4, q5, q6, q7⟩, a0, k0, rfl, ⟨h7, t6⟩⟩
set_option maxRecDepth 100000 in
theorem open_Rm {r : Reach} {b0 : Nat} {v : Value} {d : DataW H} {p : List MemPlace} (hv : Value.okWide Try.prog W r b0 81 v) (h : DataW.Trod enc Try.prog W 0 (fun _ => true) true 81 v d p) : ∃ (cs : List Value) (U : Rm), v = .agg cs.toArray ∧ RmC 0 W cs U := by
  obtain ⟨cs, rfl, hsz⟩ := okWide_struct Try.underlying81 hv
  obtain ⟨fuel, hf⟩ := h
  obtain ⟨U, hU⟩ := open_Rm0 (cs := cs.toList) hf
  exact ⟨cs.toList, U, rfl, hU⟩
end
end Go.Proofs.Ytfbfgljkiikabaa
