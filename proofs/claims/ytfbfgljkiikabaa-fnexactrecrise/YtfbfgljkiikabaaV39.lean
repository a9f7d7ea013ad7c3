import Derived.Test.YtfbfgljkiikabaaV36
import Derived.Test.YtfbfgljkiikabaaV38
namespace Go.Proofs.Ytfbfgljkiikabaa
open Go.RowKit Go.Deep

/-- a recorder by what a fall does to it: its cells -/
def rpL (U : Rr) (b0 : Option Addr) (m0 : Nat) (b1 : Option Addr) (m1 : Nat) (b2 : Option Addr) (m2 : Nat) (b3 : Option Addr) (m3 : Nat) (b4 : Option Addr) (m4 : Nat) (b5 : Option Addr) (m5 : Nat) (b6 : Option Addr) (m6 : Nat) : List Value := [.int .i64 U.nu, .int .i64 U.of, .int .i64 U.sf.pr, .int .i64 U.sf.kn, .slice b0 U.sf.sl.length m0, .bool U.up, .int .i64 U.dk.pr, .int .i64 U.dk.kn, .slice b1 U.dk.sl.length m1, .slice b2 U.he.length m2, .slice b3 U.wi.length m3, .bool U.ld, .bool U.ty, .int .i64 U.ba, .slice b4 U.ye.length m4, .slice b5 U.be.length m5, .slice b6 U.ac.length m6, .int .i64 U.hd]
theorem sizeRp : (Try.prog.info? 66).map (·.size) = some 18 := by kernel_rfl
theorem rpL_one (U : Rr) (b0 : Option Addr) (m0 : Nat) (b1 : Option Addr) (m1 : Nat) (b2 : Option Addr) (m2 : Nat) (b3 : Option Addr) (m3 : Nat) (b4 : Option Addr) (m4 : Nat) (b5 : Option Addr) (m5 : Nat) (b6 : Option Addr) (m6 : Nat) : (rpL U b0 m0 b1 m1 b2 m2 b3 m3 b4 m4 b5 m5 b6 m6).toArray.all (·.oneCell') = true := by simp [rpL, Value.oneCell']
theorem szP {cs : List Value} (h : cs.length = 18) : (Try.prog.info? 66).map (·.size) = some cs.toArray.size := by rw [show cs.toArray.size = 18 from h]; exact sizeRp
set_option maxRecDepth 20000 in
set_option maxHeartbeats 8000000 in
theorem parts_any (U : Rr) (b0 : Option Addr) (m0 : Nat) (b1 : Option Addr) (m1 : Nat) (b2 : Option Addr) (m2 : Nat) (b3 : Option Addr) (m3 : Nat) (b4 : Option Addr) (m4 : Nat) (b5 : Option Addr) (m5 : Nat) (b6 : Option Addr) (m6 : Nat) (w : World) :
    Calls Try.prog 35 #[.agg (rrL U b0 m0 b1 m1 b2 m2 b3 m3 b4 m4 b5 m5 b6 m6).toArray] w fun e w' => e = .returned (.agg (rpL U b0 m0 b1 m1 b2 m2 b3 m3 b4 m4 b5 m5 b6 m6).toArray) ∧ Below w.heap.size w w' := by
  obtain ⟨cs, hcs⟩ : ∃ cs, cs = rrL U b0 m0 b1 m1 b2 m2 b3 m3 b4 m4 b5 m5 b6 m6 := ⟨_, rfl⟩
  rw [← hcs]
  have HCS := hide hcs
  clear hcs
  go_enter Try.func35, Try.ntmps35
  go_upto_region 1 with fail
  obtain ⟨wz, hwz, FB, RB, HB⟩ : ∃ wz, wz = (w.alloc (.cells cs.toArray 40)).alloc (.cells #[.int .i64 0, .int .i64 0, .int .i64 0, .int .i64 0, .slice none 0 0, .bool false, .int .i64 0, .int .i64 0, .slice none 0 0, .slice none 0 0, .slice none 0 0, .bool false, .bool false, .int .i64 0, .slice none 0 0, .slice none 0 0, .slice none 0 0, .int .i64 0] 66) ∧ Hid (Box wz w.heap.size cs.toArray) ∧ Hid (Box wz (w.heap.size + 1) #[.int .i64 0, .int .i64 0, .int .i64 0, .int .i64 0, .slice none 0 0, .bool false, .int .i64 0, .int .i64 0, .slice none 0 0, .slice none 0 0, .slice none 0 0, .bool false, .bool false, .int .i64 0, .slice none 0 0, .slice none 0 0, .slice none 0 0, .int .i64 0]) ∧ Hid (Below w.heap.size w wz) :=
    ⟨_, rfl, (Box.new w _ _ _ rfl).on (one_al _ _), Box.new _ _ _ _ (by simp), (one_al _ _).trans ((one_al _ _).mono (by simp))⟩
  rw [← hwz]
  clear hwz
  have hsz : w.heap.size + 2 ≤ wz.heap.size := by have := RB.out.lt; omega
  have g0 : wz.cell? ⟨w.heap.size, 0, none⟩ = some (.int .i64 U.nu) := by rw [FB.out.cell 0, HCS.out]; rfl
  have g1 : wz.cell? ⟨w.heap.size, 1, none⟩ = some (.int .i64 U.of) := by rw [FB.out.cell 1, HCS.out]; rfl
  have g2 : wz.cell? ⟨w.heap.size, 2, none⟩ = some (.bool U.up) := by rw [FB.out.cell 2, HCS.out]; rfl
  have g3 : wz.cell? ⟨w.heap.size, 3, none⟩ = some (.int .i64 U.sf.pr) := by rw [FB.out.cell 3, HCS.out]; rfl
  have g4 : wz.cell? ⟨w.heap.size, 4, none⟩ = some (.int .i64 U.sf.kn) := by rw [FB.out.cell 4, HCS.out]; rfl
  have g5 : wz.cell? ⟨w.heap.size, 5, none⟩ = some (.slice b0 U.sf.sl.length m0) := by rw [FB.out.cell 5, HCS.out]; rfl
  have g6 : wz.cell? ⟨w.heap.size, 6, none⟩ = some (.int .i64 U.dk.pr) := by rw [FB.out.cell 6, HCS.out]; rfl
  have g7 : wz.cell? ⟨w.heap.size, 7, none⟩ = some (.int .i64 U.dk.kn) := by rw [FB.out.cell 7, HCS.out]; rfl
  have g8 : wz.cell? ⟨w.heap.size, 8, none⟩ = some (.slice b1 U.dk.sl.length m1) := by rw [FB.out.cell 8, HCS.out]; rfl
  have g9 : wz.cell? ⟨w.heap.size, 9, none⟩ = some (.slice b2 U.he.length m2) := by rw [FB.out.cell 9, HCS.out]; rfl
  have g10 : wz.cell? ⟨w.heap.size, 10, none⟩ = some (.slice b3 U.wi.length m3) := by rw [FB.out.cell 10, HCS.out]; rfl
  have g11 : wz.cell? ⟨w.heap.size, 11, none⟩ = some (.bool U.ld) := by rw [FB.out.cell 11, HCS.out]; rfl
  have g12 : wz.cell? ⟨w.heap.size, 12, none⟩ = some (.bool U.ty) := by rw [FB.out.cell 12, HCS.out]; rfl
  have g13 : wz.cell? ⟨w.heap.size, 13, none⟩ = some (.int .i64 U.ba) := by rw [FB.out.cell 13, HCS.out]; rfl
  have g14 : wz.cell? ⟨w.heap.size, 14, none⟩ = some (.slice b4 U.ye.length m4) := by rw [FB.out.cell 14, HCS.out]; rfl
  have g15 : wz.cell? ⟨w.heap.size, 15, none⟩ = some (.slice b5 U.be.length m5) := by rw [FB.out.cell 15, HCS.out]; rfl
  have g16 : wz.cell? ⟨w.heap.size, 16, none⟩ = some (.slice b6 U.ac.length m6) := by rw [FB.out.cell 16, HCS.out]; rfl
  have g17 : wz.cell? ⟨w.heap.size, 17, none⟩ = some (.int .i64 U.hd) := by rw [FB.out.cell 17, HCS.out]; rfl
  have HTH : Hid (World.there wz (w.heap.size + 1) 0 (rpL U b0 m0 b1 m1 b2 m2 b3 m3 b4 m4 b5 m5 b6 m6).toArray.size) := RB.out.there rfl
  have HON : Hid ((rpL U b0 m0 b1 m1 b2 m2 b3 m3 b4 m4 b5 m5 b6 m6).toArray.all (·.oneCell') = true) := rpL_one ..
  go_wp2_with (with_reducible refine wpList_store_mid (by with_reducible rfl) 66 (.tmp 2) (.tmp 33) (by with_reducible rfl) (w.heap.size + 1) 0 (rpL U b0 m0 b1 m1 b2 m2 b3 m3 b4 m4 b5 m5 b6 m6).toArray (by with_unfolding_all rfl) (by with_unfolding_all rfl) HTH.out (szP rfl) HON.out ?_; refine Hid.out ?_)
  clear g0 g1 g2 g3 g4 g5 g6 g7 g8 g9 g10 g11 g12 g13 g14 g15 g16 g17
  generalize hW : World.setCells _ _ _ _ = W9
  have FR9 : Hid (Box W9 (w.heap.size + 1) (rpL U b0 m0 b1 m1 b2 m2 b3 m3 b4 m4 b5 m5 b6 m6).toArray) := by unfold Hid; rw [← hW]; exact RB.out.full rfl
  have TT : Hid (Touch (w.heap.size + 1) (w.heap.size + 2) wz W9) := by unfold Hid; rw [← hW]; exact Touch.sets ⟨by omega, by omega⟩ _ _ _
  have HB9 : Hid (Below w.heap.size w W9) := HB.out.trans ((TT.out.under (by omega)).mono (by omega))
  clear hW
  refine hide ?_
  go_wp2
  exact bodyPost_ret (v := .agg (rpL U b0 m0 b1 m1 b2 m2 b3 m3 b4 m4 b5 m5 b6 m6).toArray) (res_rr (p := 2) (ty := 66) Try.results35 _ _ (w.heap.size + 1) 0 (rpL U b0 m0 b1 m1 b2 m2 b3 m3 b4 m4 b5 m5 b6 m6) _ rfl (FR9.out.range rfl) Try.underlying66 rfl sizeRp) rfl ⟨rfl, HB9.out⟩

set_option maxRecDepth 20000 in
set_option maxHeartbeats 8000000 in
theorem whole_any (U : Rr) (b0 : Option Addr) (m0 : Nat) (b1 : Option Addr) (m1 : Nat) (b2 : Option Addr) (m2 : Nat) (b3 : Option Addr) (m3 : Nat) (b4 : Option Addr) (m4 : Nat) (b5 : Option Addr) (m5 : Nat) (b6 : Option Addr) (m6 : Nat) (w : World) :
    Calls Try.prog 38 #[.agg (rpL U b0 m0 b1 m1 b2 m2 b3 m3 b4 m4 b5 m5 b6 m6).toArray] w fun e w' => e = .returned (.agg (rrL U b0 m0 b1 m1 b2 m2 b3 m3 b4 m4 b5 m5 b6 m6).toArray) ∧ Below w.heap.size w w' := by
  obtain ⟨cs, hcs⟩ : ∃ cs, cs = rpL U b0 m0 b1 m1 b2 m2 b3 m3 b4 m4 b5 m5 b6 m6 := ⟨_, rfl⟩
  rw [← hcs]
  have HCS := hide hcs
  clear hcs
  go_enter Try.func38, Try.ntmps38
  go_upto_region 1 with fail
  obtain ⟨wz, hwz, FB, RB, HB⟩ : ∃ wz, wz = (w.alloc (.cells cs.toArray 66)).alloc (.cells #[.int .i64 0, .int .i64 0, .bool false, .int .i64 0, .int .i64 0, .slice none 0 0, .int .i64 0, .int .i64 0, .slice none 0 0, .slice none 0 0, .slice none 0 0, .bool false, .bool false, .int .i64 0, .slice none 0 0, .slice none 0 0, .slice none 0 0, .int .i64 0] 40) ∧ Hid (Box wz w.heap.size cs.toArray) ∧ Hid (Box wz (w.heap.size + 1) #[.int .i64 0, .int .i64 0, .bool false, .int .i64 0, .int .i64 0, .slice none 0 0, .int .i64 0, .int .i64 0, .slice none 0 0, .slice none 0 0, .slice none 0 0, .bool false, .bool false, .int .i64 0, .slice none 0 0, .slice none 0 0, .slice none 0 0, .int .i64 0]) ∧ Hid (Below w.heap.size w wz) :=
    ⟨_, rfl, (Box.new w _ _ _ rfl).on (one_al _ _), Box.new _ _ _ _ (by simp), (one_al _ _).trans ((one_al _ _).mono (by simp))⟩
  rw [← hwz]
  clear hwz
  have hsz : w.heap.size + 2 ≤ wz.heap.size := by have := RB.out.lt; omega
  have g0 : wz.cell? ⟨w.heap.size, 0, none⟩ = some (.int .i64 U.nu) := by rw [FB.out.cell 0, HCS.out]; rfl
  have g1 : wz.cell? ⟨w.heap.size, 1, none⟩ = some (.int .i64 U.of) := by rw [FB.out.cell 1, HCS.out]; rfl
  have g2 : wz.cell? ⟨w.heap.size, 2, none⟩ = some (.int .i64 U.sf.pr) := by rw [FB.out.cell 2, HCS.out]; rfl
  have g3 : wz.cell? ⟨w.heap.size, 3, none⟩ = some (.int .i64 U.sf.kn) := by rw [FB.out.cell 3, HCS.out]; rfl
  have g4 : wz.cell? ⟨w.heap.size, 4, none⟩ = some (.slice b0 U.sf.sl.length m0) := by rw [FB.out.cell 4, HCS.out]; rfl
  have g5 : wz.cell? ⟨w.heap.size, 5, none⟩ = some (.bool U.up) := by rw [FB.out.cell 5, HCS.out]; rfl
  have g6 : wz.cell? ⟨w.heap.size, 6, none⟩ = some (.int .i64 U.dk.pr) := by rw [FB.out.cell 6, HCS.out]; rfl
  have g7 : wz.cell? ⟨w.heap.size, 7, none⟩ = some (.int .i64 U.dk.kn) := by rw [FB.out.cell 7, HCS.out]; rfl
  have g8 : wz.cell? ⟨w.heap.size, 8, none⟩ = some (.slice b1 U.dk.sl.length m1) := by rw [FB.out.cell 8, HCS.out]; rfl
  have g9 : wz.cell? ⟨w.heap.size, 9, none⟩ = some (.slice b2 U.he.length m2) := by rw [FB.out.cell 9, HCS.out]; rfl
  have g10 : wz.cell? ⟨w.heap.size, 10, none⟩ = some (.slice b3 U.wi.length m3) := by rw [FB.out.cell 10, HCS.out]; rfl
  have g11 : wz.cell? ⟨w.heap.size, 11, none⟩ = some (.bool U.ld) := by rw [FB.out.cell 11, HCS.out]; rfl
  have g12 : wz.cell? ⟨w.heap.size, 12, none⟩ = some (.bool U.ty) := by rw [FB.out.cell 12, HCS.out]; rfl
  have g13 : wz.cell? ⟨w.heap.size, 13, none⟩ = some (.int .i64 U.ba) := by rw [FB.out.cell 13, HCS.out]; rfl
  have g14 : wz.cell? ⟨w.heap.size, 14, none⟩ = some (.slice b4 U.ye.length m4) := by rw [FB.out.cell 14, HCS.out]; rfl
  have g15 : wz.cell? ⟨w.heap.size, 15, none⟩ = some (.slice b5 U.be.length m5) := by rw [FB.out.cell 15, HCS.out]; rfl
  have g16 : wz.cell? ⟨w.heap.size, 16, none⟩ = some (.slice b6 U.ac.length m6) := by rw [FB.out.cell 16, HCS.out]; rfl
  have g17 : wz.cell? ⟨w.heap.size, 17, none⟩ = some (.int .i64 U.hd) := by rw [FB.out.cell 17, HCS.out]; rfl
  have HTH : Hid (World.there wz (w.heap.size + 1) 0 (rrL U b0 m0 b1 m1 b2 m2 b3 m3 b4 m4 b5 m5 b6 m6).toArray.size) := RB.out.there rfl
  have HON : Hid ((rrL U b0 m0 b1 m1 b2 m2 b3 m3 b4 m4 b5 m5 b6 m6).toArray.all (·.oneCell') = true) := rrL_one ..
  go_wp2_with (with_reducible refine wpList_store_mid (by with_reducible rfl) 40 (.tmp 2) (.tmp 45) (by with_reducible rfl) (w.heap.size + 1) 0 (rrL U b0 m0 b1 m1 b2 m2 b3 m3 b4 m4 b5 m5 b6 m6).toArray (by with_unfolding_all rfl) (by with_unfolding_all rfl) HTH.out (szN rfl) HON.out ?_; refine Hid.out ?_)
  clear g0 g1 g2 g3 g4 g5 g6 g7 g8 g9 g10 g11 g12 g13 g14 g15 g16 g17
  generalize hW : World.setCells _ _ _ _ = W9
  have FR9 : Hid (Box W9 (w.heap.size + 1) (rrL U b0 m0 b1 m1 b2 m2 b3 m3 b4 m4 b5 m5 b6 m6).toArray) := by unfold Hid; rw [← hW]; exact RB.out.full rfl
  have TT : Hid (Touch (w.heap.size + 1) (w.heap.size + 2) wz W9) := by unfold Hid; rw [← hW]; exact Touch.sets ⟨by omega, by omega⟩ _ _ _
  have HB9 : Hid (Below w.heap.size w W9) := HB.out.trans ((TT.out.under (by omega)).mono (by omega))
  clear hW
  refine hide ?_
  go_wp2
  exact bodyPost_ret (v := .agg (rrL U b0 m0 b1 m1 b2 m2 b3 m3 b4 m4 b5 m5 b6 m6).toArray) (res_rr (p := 2) (ty := 40) Try.results38 _ _ (w.heap.size + 1) 0 (rrL U b0 m0 b1 m1 b2 m2 b3 m3 b4 m4 b5 m5 b6 m6) _ rfl (FR9.out.range rfl) Try.underlying40 rfl sizeRr) rfl ⟨rfl, HB9.out⟩
end Go.Proofs.Ytfbfgljkiikabaa
