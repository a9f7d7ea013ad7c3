
import Derived.Test.YthfdfdlojfdckaaGreatVOpX
import Derived.Test.YthfdfdlojfdckaaGreatVOPB
import Derived.Test.YthfdfdlojfdckaaGreatVBBL
import Derived.Test.YthfdfdlojfdckaaGreatVAK
namespace Go.Proofs.YthfdfdlojfdckaaGreat
open Go.ChangeShapes Go.WideShapes Go.ChangeAt Go.RowKit Go.Deep
theorem Tryz.cells62 : Tryz.prog.cellsOf 62 = 15 := by kernel_rfl
theorem array15 {cs : Array Value} (h : cs.size = 15) : ∃ c0 c1 c2 c3 c4 c5 c6 c7 c8 c9 c10 c11 c12 c13 c14, cs = #[c0, c1, c2, c3, c4, c5, c6, c7, c8, c9, c10, c11, c12, c13, c14] := by
  obtain ⟨l⟩ := cs
  match l, h with
  | [c0, c1, c2, c3, c4, c5, c6, c7, c8, c9, c10, c11, c12, c13, c14], _ => exact ⟨c0, c1, c2, c3, c4, c5, c6, c7, c8, c9, c10, c11, c12, c13, c14, rfl⟩
section
variable {H : Type} {enc : TypeId × Value → H} {W : World}
set_option maxRecDepth 100000 in
theorem open_ask {r : Reach} {b0 : Nat} {v : Value} {d : DataW H} {p : List MemPlace} (hv : Value.okWide Tryz.prog W r b0 62 v) (h : DataW.Trod enc Tryz.prog W 0 (fun _ => true) true 62 v d p) :
    ∃ (va ha qa : Value) (A : Ak), v = .agg #[.string A.who, .int .i64 A.verb, .string A.kd, .string A.nm, .string A.tm, va, ha, .int .i64 A.seen, .string A.hold, .string A.tw, qa, .string A.rk, .string A.rt, .string A.rp, .int .i64 A.num] ∧ AskAt 0 W va ha qa A := by
  obtain ⟨cs, rfl, hsz⟩ := okWide_struct Tryz.underlying62 hv
  obtain ⟨c0, c1, c2, c3, c4, c5, c6, c7, c8, c9, c10, c11, c12, c13, c14, rfl⟩ := array15 (hsz.trans Tryz.cells62)
  obtain ⟨fuel, hf⟩ := h
  obtain ⟨xs, n, _, _, _, hlen, hfld⟩ := DataW.trod_struct Tryz.underlying62 hf
  simp only [Array.size, List.length_cons, List.length_nil] at hlen
  have g0 : DataW.trod enc Tryz.prog W 0 (fun _ => true) true n 9 ((([c0, c1, c2, c3, c4, c5, c6, c7, c8, c9, c10, c11, c12, c13, c14] : List Value).drop 0).take (Tryz.prog.cellsOf 9)) = xs[0]? := hfld 0 _ rfl
  have g1 : DataW.trod enc Tryz.prog W 0 (fun _ => true) true n 3 ((([c0, c1, c2, c3, c4, c5, c6, c7, c8, c9, c10, c11, c12, c13, c14] : List Value).drop 1).take (Tryz.prog.cellsOf 3)) = xs[1]? := hfld 1 _ rfl
  have g2 : DataW.trod enc Tryz.prog W 0 (fun _ => true) true n 9 ((([c0, c1, c2, c3, c4, c5, c6, c7, c8, c9, c10, c11, c12, c13, c14] : List Value).drop 2).take (Tryz.prog.cellsOf 9)) = xs[2]? := hfld 2 _ rfl
  have g3 : DataW.trod enc Tryz.prog W 0 (fun _ => true) true n 9 ((([c0, c1, c2, c3, c4, c5, c6, c7, c8, c9, c10, c11, c12, c13, c14] : List Value).drop 3).take (Tryz.prog.cellsOf 9)) = xs[3]? := hfld 3 _ rfl
  have g4 : DataW.trod enc Tryz.prog W 0 (fun _ => true) true n 9 ((([c0, c1, c2, c3, c4, c5, c6, c7, c8, c9, c10, c11, c12, c13, c14] : List Value).drop 4).take (Tryz.prog.cellsOf 9)) = xs[4]? := hfld 4 _ rfl
  have g5 : DataW.trod enc Tryz.prog W 0 (fun _ => true) true n 57 ((([c0, c1, c2, c3, c4, c5, c6, c7, c8, c9, c10, c11, c12, c13, c14] : List Value).drop 5).take (Tryz.prog.cellsOf 57)) = xs[5]? := hfld 5 _ rfl
  have g6 : DataW.trod enc Tryz.prog W 0 (fun _ => true) true n 57 ((([c0, c1, c2, c3, c4, c5, c6, c7, c8, c9, c10, c11, c12, c13, c14] : List Value).drop 6).take (Tryz.prog.cellsOf 57)) = xs[6]? := hfld 6 _ rfl
  have g7 : DataW.trod enc Tryz.prog W 0 (fun _ => true) true n 3 ((([c0, c1, c2, c3, c4, c5, c6, c7, c8, c9, c10, c11, c12, c13, c14] : List Value).drop 7).take (Tryz.prog.cellsOf 3)) = xs[7]? := hfld 7 _ rfl
  have g8 : DataW.trod enc Tryz.prog W 0 (fun _ => true) true n 9 ((([c0, c1, c2, c3, c4, c5, c6, c7, c8, c9, c10, c11, c12, c13, c14] : List Value).drop 8).take (Tryz.prog.cellsOf 9)) = xs[8]? := hfld 8 _ rfl
  have g9 : DataW.trod enc Tryz.prog W 0 (fun _ => true) true n 9 ((([c0, c1, c2, c3, c4, c5, c6, c7, c8, c9, c10, c11, c12, c13, c14] : List Value).drop 9).take (Tryz.prog.cellsOf 9)) = xs[9]? := hfld 9 _ rfl
  have g10 : DataW.trod enc Tryz.prog W 0 (fun _ => true) true n 60 ((([c0, c1, c2, c3, c4, c5, c6, c7, c8, c9, c10, c11, c12, c13, c14] : List Value).drop 10).take (Tryz.prog.cellsOf 60)) = xs[10]? := hfld 10 _ rfl
  have g11 : DataW.trod enc Tryz.prog W 0 (fun _ => true) true n 3 ((([c0, c1, c2, c3, c4, c5, c6, c7, c8, c9, c10, c11, c12, c13, c14] : List Value).drop 14).take (Tryz.prog.cellsOf 3)) = xs[11]? := hfld 11 _ rfl
  simp only [Tryz.cells3, Tryz.cells9, Tryz.cells57, Tryz.cells60, List.drop_succ_cons, List.drop_zero, List.take_succ_cons, List.take_zero] at g0 g1 g2 g3 g4 g5 g6 g7 g8 g9 g10 g11
  rw [List.getElem?_eq_getElem (by omega)] at g0 g1 g2 g3 g4 g5 g6 g7 g8 g9 g10 g11
  obtain ⟨q0, e0, _, s0⟩ := DataW.trod_string Tryz.underlying9 g0
  obtain ⟨q1, e1, _, _⟩ := DataW.trod_int Tryz.underlying3 g1
  obtain ⟨q2, e2, _, s2⟩ := DataW.trod_string Tryz.underlying9 g2
  obtain ⟨q3, e3, _, s3⟩ := DataW.trod_string Tryz.underlying9 g3
  obtain ⟨q4, e4, _, s4⟩ := DataW.trod_string Tryz.underlying9 g4
  obtain ⟨q5, hq5⟩ := open_words g5
  obtain ⟨q6, hq6⟩ := open_words g6
  obtain ⟨q7, e7, _, _⟩ := DataW.trod_int Tryz.underlying3 g7
  obtain ⟨q8, e8, _, s8⟩ := DataW.trod_string Tryz.underlying9 g8
  obtain ⟨q9, e9, _, s9⟩ := DataW.trod_string Tryz.underlying9 g9
  obtain ⟨q10, v10, e10, hq10, z10⟩ := open_ru0 g10
  obtain ⟨q11, e11, _, _⟩ := DataW.trod_int Tryz.underlying3 g11
  simp only [List.cons.injEq, and_true] at e0 e1 e2 e3 e4 e7 e8 e9 e10 e11
  obtain ⟨r0, r1, r2, r3⟩ := e10
  subst e0 e1 e2 e3 e4 e7 e8 e9 e11 r0 r1 r2 r3
  exact ⟨c5, c6, _, ⟨q0, q1, q2, q3, q4, q5, q6, q7, q8, q9, q10.vb, q10.kd, q10.tm, q10.pf, q11⟩, rfl, hq5.in0, hq6.in0, hq10, ⟨s0, s2, s3, s4, s8, s9, z10.s1, z10.s2, z10.s3⟩⟩
end
end Go.Proofs.YthfdfdlojfdckaaGreat
