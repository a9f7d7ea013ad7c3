import Derived.Test.YtlednecohppljaaB33
import Derived.Test.YtlednecohppljaaB34
import Derived.Test.YtlednecohppljaaB35
import Derived.Test.YtlednecohppljaaB36
namespace Go.Proofs.Ytlednecohppljaa
open Go.RowKit Go.Deep

theorem Box.tch {w w' : World} {β lo hi : Nat} {cs : Array Value} (h : Box w β cs) (ht : Touch lo hi w w') (ho : hi ≤ β) : Box w' β cs :=
  ⟨Nat.lt_of_lt_of_le h.lt ht.size, fun i => (ht.cell (p := ⟨β, i, none⟩) h.lt (Or.inr ho)).trans (h.cell i), fun i => (ht.frozen (p := ⟨β, i, none⟩) h.lt (Or.inr ho)).trans (h.free i)⟩
theorem Box.tch2 {w w' : World} {β lo hi : Nat} {cs : Array Value} (h : Box w β cs) (ht : Touch lo hi w w') (ho : β < lo ∨ hi ≤ β) : Box w' β cs :=
  ⟨Nat.lt_of_lt_of_le h.lt ht.size, fun i => (ht.cell (p := ⟨β, i, none⟩) h.lt ho).trans (h.cell i), fun i => (ht.frozen (p := ⟨β, i, none⟩) h.lt ho).trans (h.free i)⟩
structure RrO (lo hi : Nat) (w : World) (c : Nat → Nat × Nat) (v0 v1 v2 v3 v4 v5 v6 : Value) (U : Rr) : Prop where
  seg : ∀ i, i < 7 → lo ≤ (c i).1 ∧ (c i).2 ≤ hi
  ap : ∀ i j, i < 7 → j < 7 → i ≠ j → (c i).2 ≤ (c j).1 ∨ (c j).2 ≤ (c i).1
  o0 : RssOwn (c 0).1 (c 0).2 w v0 U.sf.sl
  o1 : RssOwn (c 1).1 (c 1).2 w v1 U.dk.sl
  o2 : RmsOwn (c 2).1 (c 2).2 w v2 U.he
  o3 : RtsOwn (c 3).1 (c 3).2 w v3 U.wi
  o4 : RisOwn (c 4).1 (c 4).2 w v4 U.ye
  o5 : RssOwn (c 5).1 (c 5).2 w v5 U.be
  o6 : RasOwn (c 6).1 (c 6).2 w v6 U.ac
theorem RrO.below {lo hi : Nat} {w w' : World} {c : Nat → Nat × Nat} {v0 v1 v2 v3 v4 v5 v6 : Value} {U : Rr} (h : RrO lo hi w c v0 v1 v2 v3 v4 v5 v6 U) (hb : Below w.heap.size w w') : RrO lo hi w' c v0 v1 v2 v3 v4 v5 v6 U := ⟨h.seg, h.ap, h.o0.below hb, h.o1.below hb, h.o2.below hb, h.o3.below hb, h.o4.below hb, h.o5.below hb, h.o6.below hb⟩
theorem RrO.touch {lo hi lo' hi' : Nat} {w w' : World} {c : Nat → Nat × Nat} {v0 v1 v2 v3 v4 v5 v6 : Value} {U : Rr} (h : RrO lo hi w c v0 v1 v2 v3 v4 v5 v6 U) (ht : Touch lo' hi' w w') (ho : hi ≤ lo' ∨ hi' ≤ lo) : RrO lo hi w' c v0 v1 v2 v3 v4 v5 v6 U := by
  have s0 := h.seg 0 (by omega)
  have s1 := h.seg 1 (by omega)
  have s2 := h.seg 2 (by omega)
  have s3 := h.seg 3 (by omega)
  have s4 := h.seg 4 (by omega)
  have s5 := h.seg 5 (by omega)
  have s6 := h.seg 6 (by omega)
  exact ⟨h.seg, h.ap, h.o0.touch ht (by omega), h.o1.touch ht (by omega), h.o2.touch ht (by omega), h.o3.touch ht (by omega), h.o4.touch ht (by omega), h.o5.touch ht (by omega), h.o6.touch ht (by omega)⟩
/-- a recorder of one's own -/
def RrOwn (lo hi : Nat) (w : World) (cs : List Value) (U : Rr) : Prop := ∃ a0 k0 a1 k1 a2 k2 a3 k3 a4 k4 a5 k5 a6 k6 c, cs = rrL U a0 k0 a1 k1 a2 k2 a3 k3 a4 k4 a5 k5 a6 k6 ∧ RrO lo hi w c (.slice a0 U.sf.sl.length k0) (.slice a1 U.dk.sl.length k1) (.slice a2 U.he.length k2) (.slice a3 U.wi.length k3) (.slice a4 U.ye.length k4) (.slice a5 U.be.length k5) (.slice a6 U.ac.length k6) U
theorem RrOwn.below {lo hi : Nat} {w w' : World} {cs : List Value} {U : Rr} (h : RrOwn lo hi w cs U) (hb : Below w.heap.size w w') : RrOwn lo hi w' cs U := by
  obtain ⟨a0, k0, a1, k1, a2, k2, a3, k3, a4, k4, a5, k5, a6, k6, c, h1, h2⟩ := h
  exact ⟨a0, k0, a1, k1, a2, k2, a3, k3, a4, k4, a5, k5, a6, k6, c, h1, h2.below hb⟩
theorem RrOwn.touch {lo hi lo' hi' : Nat} {w w' : World} {cs : List Value} {U : Rr} (h : RrOwn lo hi w cs U) (ht : Touch lo' hi' w w') (ho : hi ≤ lo' ∨ hi' ≤ lo) : RrOwn lo hi w' cs U := by
  obtain ⟨a0, k0, a1, k1, a2, k2, a3, k3, a4, k4, a5, k5, a6, k6, c, h1, h2⟩ := h
  exact ⟨a0, k0, a1, k1, a2, k2, a3, k3, a4, k4, a5, k5, a6, k6, c, h1, h2.touch ht ho⟩
theorem RrOwn.at {lo hi : Nat} {w : World} {cs : List Value} {U : Rr} (h : RrOwn lo hi w cs U) : RrC lo w cs U := by
  obtain ⟨a0, k0, a1, k1, a2, k2, a3, k3, a4, k4, a5, k5, a6, k6, c, h1, h2⟩ := h
  exact ⟨a0, k0, a1, k1, a2, k2, a3, k3, a4, k4, a5, k5, a6, k6, h1, ⟨h2.o0.at.mono (h2.seg 0 (by omega)).1, h2.o1.at.mono (h2.seg 1 (by omega)).1, h2.o2.at.mono (h2.seg 2 (by omega)).1, h2.o3.at.mono (h2.seg 3 (by omega)).1, h2.o4.at.mono (h2.seg 4 (by omega)).1, h2.o5.at.mono (h2.seg 5 (by omega)).1, h2.o6.at.mono (h2.seg 6 (by omega)).1⟩⟩
def kR0 (k : Int) (_U : Rr) : Int := k
def kR1 (k : Int) (U : Rr) : Int := kR0 k U + (posRs U.sf.sl U.sf.sl.length : Int)
def kR2 (k : Int) (U : Rr) : Int := kR1 k U + (posRs U.dk.sl U.dk.sl.length : Int)
def kR3 (k : Int) (U : Rr) : Int := kR2 k U + (posRm U.he U.he.length : Int)
def kR4 (k : Int) (U : Rr) : Int := kR3 k U + (U.wi.length : Int)
def kR5 (k : Int) (U : Rr) : Int := kR4 k U + (U.ye.length : Int)
def kR6 (k : Int) (U : Rr) : Int := kR5 k U + (posRs U.be U.be.length : Int)
def kR7 (k : Int) (U : Rr) : Int := kR6 k U + (posRa U.ac U.ac.length : Int)
def mkRr (k : Int) (U : Rr) : Rr := { U with sf := { U.sf with sl := mkRss (kR0 k U) U.sf.sl }, dk := { U.dk with sl := mkRss (kR1 k U) U.dk.sl }, he := mkRms (kR2 k U) U.he, wi := tmarks (kR3 k U) U.wi.length, ye := imarks (kR4 k U) U.ye.length, be := mkRss (kR5 k U) U.be, ac := mkRas (kR6 k U) U.ac }
theorem mkRr_L (k : Int) (U : Rr) (a0 : Option Addr) (k0 : Nat) ( a1 : Option Addr) (k1 : Nat) ( a2 : Option Addr) (k2 : Nat) ( a3 : Option Addr) (k3 : Nat) ( a4 : Option Addr) (k4 : Nat) ( a5 : Option Addr) (k5 : Nat) (a6 : Option Addr) (k6 : Nat) : rrL (mkRr k U) a0 k0 a1 k1 a2 k2 a3 k3 a4 k4 a5 k5 a6 k6 = rrL U a0 k0 a1 k1 a2 k2 a3 k3 a4 k4 a5 k5 a6 k6 := by
  simp [rrL, mkRr, mkRss_len, mkRms_len, tmarks_len, imarks_len, mkRas_len]
theorem kR_bd {k : Int} {U : Rr} (hn : RrSmall U) (h0 : 0 ≤ k) (hk : k ≤ 1000000000000000) : (0 ≤ kR1 k U ∧ kR1 k U ≤ 10000000000000000) ∧ (0 ≤ kR2 k U ∧ kR2 k U ≤ 20000000000000000) ∧ (0 ≤ kR3 k U ∧ kR3 k U ≤ 30000000000000000) ∧ (0 ≤ kR4 k U ∧ kR4 k U ≤ 40000000000000000) ∧ (0 ≤ kR5 k U ∧ kR5 k U ≤ 50000000000000000) ∧ (0 ≤ kR6 k U ∧ kR6 k U ≤ 60000000000000000) ∧ (0 ≤ kR7 k U ∧ kR7 k U ≤ 70000000000000000) := by
  obtain ⟨n0, n1, n2, n3, n4, n5, n6⟩ := hn
  unfold RdSmall at n0 n1
  have p0 := posRs_le n0 (Nat.le_refl _)
  have p1 := posRs_le n1 (Nat.le_refl _)
  have p2 := posRm_le n2 (Nat.le_refl _)
  have p5 := posRs_le n5 (Nat.le_refl _)
  have p6 := posRa_le n6 (Nat.le_refl _)
  have q0 := n0.1
  have q1 := n1.1
  have q2 := n2.1
  have q5 := n5.1
  have q6 := n6.1
  unfold RtsSmall at n3
  unfold RisSmall at n4
  unfold kR7 kR6 kR5 kR4 kR3 kR2 kR1 kR0
  omega
end Go.Proofs.Ytlednecohppljaa
namespace Go.Proofs.Ytlednecohppljaa
open Go.ChangeShapes Go.WideShapes Go.ChangeAt Go.RowKit Go.Deep
theorem Try.cells37 : Try.prog.cellsOf 37 = 18 := by kernel_rfl
theorem lstRr {l : List Value} (h : l.length = 18) : ∃ c0 c1 c2 c3 c4 c5 c6 c7 c8 c9 c10 c11 c12 c13 c14 c15 c16 c17, l = [c0, c1, c2, c3, c4, c5, c6, c7, c8, c9, c10, c11, c12, c13, c14, c15, c16, c17] := by
  match l, h with
  | [c0, c1, c2, c3, c4, c5, c6, c7, c8, c9, c10, c11, c12, c13, c14, c15, c16, c17], _ => exact ⟨c0, c1, c2, c3, c4, c5, c6, c7, c8, c9, c10, c11, c12, c13, c14, c15, c16, c17, rfl⟩
section
variable {H : Type} {enc : TypeId × Value → H} {W : World}
set_option maxRecDepth 100000 in
theorem open_Rr0 {fuel : Nat} {cs : List Value} {x : DataW H × List MemPlace} (h : DataW.trod enc Try.prog W 0 (fun _ => true) true fuel 37 cs = some x) : ∃ U, RrC 0 W cs U := by
  obtain ⟨xs, n, _, _, hl, hlen, hfld⟩ := DataW.trod_struct Try.underlying37 h
  obtain ⟨c0, c1, c2, c3, c4, c5, c6, c7, c8, c9, c10, c11, c12, c13, c14, c15, c16, c17, rfl⟩ := lstRr (hl.trans Try.cells37)
  simp only [Array.size, List.length_cons, List.length_nil] at hlen
  have g0 : DataW.trod enc Try.prog W 0 (fun _ => true) true n 3 ((([c0, c1, c2, c3, c4, c5, c6, c7, c8, c9, c10, c11, c12, c13, c14, c15, c16, c17] : List Value).drop 0).take (Try.prog.cellsOf 3)) = xs[0]? := hfld 0 _ rfl
  have g1 : DataW.trod enc Try.prog W 0 (fun _ => true) true n 3 ((([c0, c1, c2, c3, c4, c5, c6, c7, c8, c9, c10, c11, c12, c13, c14, c15, c16, c17] : List Value).drop 1).take (Try.prog.cellsOf 3)) = xs[1]? := hfld 1 _ rfl
  have g2 : DataW.trod enc Try.prog W 0 (fun _ => true) true n 4 ((([c0, c1, c2, c3, c4, c5, c6, c7, c8, c9, c10, c11, c12, c13, c14, c15, c16, c17] : List Value).drop 2).take (Try.prog.cellsOf 4)) = xs[2]? := hfld 2 _ rfl
  have g3 : DataW.trod enc Try.prog W 0 (fun _ => true) true n 31 ((([c0, c1, c2, c3, c4, c5, c6, c7, c8, c9, c10, c11, c12, c13, c14, c15, c16, c17] : List Value).drop 3).take (Try.prog.cellsOf 31)) = xs[3]? := hfld 3 _ rfl
  have g4 : DataW.trod enc Try.prog W 0 (fun _ => true) true n 31 ((([c0, c1, c2, c3, c4, c5, c6, c7, c8, c9, c10, c11, c12, c13, c14, c15, c16, c17] : List Value).drop 6).take (Try.prog.cellsOf 31)) = xs[4]? := hfld 4 _ rfl
  have g5 : DataW.trod enc Try.prog W 0 (fun _ => true) true n 32 ((([c0, c1, c2, c3, c4, c5, c6, c7, c8, c9, c10, c11, c12, c13, c14, c15, c16, c17] : List Value).drop 9).take (Try.prog.cellsOf 32)) = xs[5]? := hfld 5 _ rfl
  have g6 : DataW.trod enc Try.prog W 0 (fun _ => true) true n 33 ((([c0, c1, c2, c3, c4, c5, c6, c7, c8, c9, c10, c11, c12, c13, c14, c15, c16, c17] : List Value).drop 10).take (Try.prog.cellsOf 33)) = xs[6]? := hfld 6 _ rfl
  have g7 : DataW.trod enc Try.prog W 0 (fun _ => true) true n 4 ((([c0, c1, c2, c3, c4, c5, c6, c7, c8, c9, c10, c11, c12, c13, c14, c15, c16, c17] : List Value).drop 11).take (Try.prog.cellsOf 4)) = xs[7]? := hfld 7 _ rfl
  have g8 : DataW.trod enc Try.prog W 0 (fun _ => true) true n 4 ((([c0, c1, c2, c3, c4, c5, c6, c7, c8, c9, c10, c11, c12, c13, c14, c15, c16, c17] : List Value).drop 12).take (Try.prog.cellsOf 4)) = xs[8]? := hfld 8 _ rfl
  have g9 : DataW.trod enc Try.prog W 0 (fun _ => true) true n 3 ((([c0, c1, c2, c3, c4, c5, c6, c7, c8, c9, c10, c11, c12, c13, c14, c15, c16, c17] : List Value).drop 13).take (Try.prog.cellsOf 3)) = xs[9]? := hfld 9 _ rfl
  have g10 : DataW.trod enc Try.prog W 0 (fun _ => true) true n 34 ((([c0, c1, c2, c3, c4, c5, c6, c7, c8, c9, c10, c11, c12, c13, c14, c15, c16, c17] : List Value).drop 14).take (Try.prog.cellsOf 34)) = xs[10]? := hfld 10 _ rfl
  have g11 : DataW.trod enc Try.prog W 0 (fun _ => true) true n 22 ((([c0, c1, c2, c3, c4, c5, c6, c7, c8, c9, c10, c11, c12, c13, c14, c15, c16, c17] : List Value).drop 15).take (Try.prog.cellsOf 22)) = xs[11]? := hfld 11 _ rfl
  have g12 : DataW.trod enc Try.prog W 0 (fun _ => true) true n 35 ((([c0, c1, c2, c3, c4, c5, c6, c7, c8, c9, c10, c11, c12, c13, c14, c15, c16, c17] : List Value).drop 16).take (Try.prog.cellsOf 35)) = xs[12]? := hfld 12 _ rfl
  have g13 : DataW.trod enc Try.prog W 0 (fun _ => true) true n 3 ((([c0, c1, c2, c3, c4, c5, c6, c7, c8, c9, c10, c11, c12, c13, c14, c15, c16, c17] : List Value).drop 17).take (Try.prog.cellsOf 3)) = xs[13]? := hfld 13 _ rfl
  simp only [Try.cells3, Try.cells4, Try.cells34, Try.cells33, Try.cells35, Try.cells32, Try.cells22, Try.cells31, List.drop_succ_cons, List.drop_zero, List.take_succ_cons, List.take_zero] at g0 g1 g2 g3 g4 g5 g6 g7 g8 g9 g10 g11 g12 g13
  rw [List.getElem?_eq_getElem (by omega)] at g0 g1 g2 g3 g4 g5 g6 g7 g8 g9 g10 g11 g12 g13
  obtain ⟨q0, e0, _, _⟩ := DataW.trod_int Try.underlying3 g0
  simp only [List.cons.injEq, and_true] at e0
  subst e0
  obtain ⟨q1, e1, _, _⟩ := DataW.trod_int Try.underlying3 g1
  simp only [List.cons.injEq, and_true] at e1
  subst e1
  obtain ⟨q2, e2, _⟩ := DataW.trod_bool Try.underlying4 g2
  simp only [List.cons.injEq, and_true] at e2
  subst e2
  obtain ⟨q3, a0, k0, e3, h3⟩ := open_Rd0 g3
  unfold rdL at e3
  simp only [List.cons.injEq, and_true] at e3
  obtain ⟨r3_0, r3_1, r3_2⟩ := e3
  subst r3_0 r3_1 r3_2
  obtain ⟨q4, a1, k1, e4, h4⟩ := open_Rd0 g4
  unfold rdL at e4
  simp only [List.cons.injEq, and_true] at e4
  obtain ⟨r4_0, r4_1, r4_2⟩ := e4
  subst r4_0 r4_1 r4_2
  obtain ⟨q5, h5⟩ := open_Rms g5
  obtain ⟨a2, k2, rfl⟩ := h5.form
  obtain ⟨q6, h6⟩ := open_Rts g6
  obtain ⟨a3, k3, rfl⟩ := h6.form
  obtain ⟨q7, e7, _⟩ := DataW.trod_bool Try.underlying4 g7
  simp only [List.cons.injEq, and_true] at e7
  subst e7
  obtain ⟨q8, e8, _⟩ := DataW.trod_bool Try.underlying4 g8
  simp only [List.cons.injEq, and_true] at e8
  subst e8
  obtain ⟨q9, e9, _, _⟩ := DataW.trod_int Try.underlying3 g9
  simp only [List.cons.injEq, and_true] at e9
  subst e9
  obtain ⟨q10, h10⟩ := open_Ris g10
  obtain ⟨a4, k4, rfl⟩ := h10.form
  obtain ⟨q11, h11⟩ := open_Rss g11
  obtain ⟨a5, k5, rfl⟩ := h11.form
  obtain ⟨q12, h12⟩ := open_Ras g12
  obtain ⟨a6, k6, rfl⟩ := h12.form
  obtain ⟨q13, e13, _, _⟩ := DataW.trod_int Try.underlying3 g13
  simp only [List.cons.injEq, and_true] at e13
  subst e13
  exact ⟨⟨q0, q1, q2, q3, q4, q5, q6, q7, q8, q9, q10, q11, q12, q13⟩, a0, k0, a1, k1, a2, k2, a3, k3, a4, k4, a5, k5, a6, k6, rfl, ⟨h3.l0, h4.l0, h5, h6, h10, h11, h12⟩⟩
set_option maxRecDepth 100000 in
theorem open_Rr {r : Reach} {b0 : Nat} {v : Value} {d : DataW H} {p : List MemPlace} (hv : Value.okWide Try.prog W r b0 37 v) (h : DataW.Trod enc Try.prog W 0 (fun _ => true) true 37 v d p) : ∃ (cs : List Value) (U : Rr), v = .agg cs.toArray ∧ RrC 0 W cs U := by
  obtain ⟨cs, rfl, hsz⟩ := okWide_struct Try.underlying37 hv
  obtain ⟨fuel, hf⟩ := h
  obtain ⟨U, hU⟩ := open_Rr0 (cs := cs.toList) hf
  exact ⟨cs.toList, U, rfl, hU⟩
end
end Go.Proofs.Ytlednecohppljaa
