import Derived.Test.YtlgakpnjicdblabW10
import Derived.ProofKit
import Derived.Deep.Strs
import Derived.Deep.RegionHeld
namespace Go.Proofs.Ytlgakpnjicdblab
open Go.ChangeShapes Go.WideShapes Go.ChangeAt Go.RowKit Go.Deep
open Go.ChangeMaps (open_string shut_string)

theorem Try.own : ownKnob Try.prog.godebug = none := by kernel_rfl
theorem Try.laidOut : laidOutB Try.prog = true := by kernel_rfl
theorem Try.cells9 : Try.prog.cellsOf 9 = 1 := by kernel_rfl
theorem Try.cells3 : Try.prog.cellsOf 3 = 1 := by kernel_rfl
theorem Try.cells4 : Try.prog.cellsOf 4 = 1 := by kernel_rfl
theorem Try.cells44 : Try.prog.cellsOf 44 = 1 := by kernel_rfl
theorem Try.cells75 : Try.prog.cellsOf 75 = 11 := by kernel_rfl

theorem array11 {cs : Array Value} (h : cs.size = 11) : ∃ c0 c1 c2 c3 c4 c5 c6 c7 c8 c9 c10, cs = #[c0, c1, c2, c3, c4, c5, c6, c7, c8, c9, c10] := by
  obtain ⟨l⟩ := cs
  match l, h with
  | [c0, c1, c2, c3, c4, c5, c6, c7, c8, c9, c10], _ => exact ⟨c0, c1, c2, c3, c4, c5, c6, c7, c8, c9, c10, rfl⟩

section
variable {H : Type} {enc : TypeId × Value → H} {W : World}

/-- A []string THAT CAME IN. -/
theorem open_words {fuel : Nat} {c : Value} {x : DataW H × List MemPlace} (h : DataW.trod enc Try.prog W 0 (fun _ => true) true fuel 44 [c] = some x) : ∃ L, StrsAt W c L := by
  rcases open_strs Try.underlying44 Try.underlying9 Try.cells9 h with ⟨hcs, _⟩ | ⟨a, len, cap, m, Sx, hcs, _, hl, hm, hmm, _, hcell⟩
  · simp only [List.cons.injEq, and_true] at hcs
    exact ⟨[], Or.inl ⟨_, _, hcs, rfl⟩⟩
  · simp only [List.cons.injEq, and_true] at hcs
    simp only [if_true] at hmm
    subst hmm
    by_cases h0 : len = 0
    · subst h0
      exact ⟨[], Or.inl ⟨_, _, hcs, rfl⟩⟩
    · obtain ⟨b, off, spot⟩ := a
      have hspot : spot = none := by simpa [Addr.add] using World.cell?_spot (hcell 0 (by omega)).1
      subst hspot
      refine ⟨(List.range len).map Sx, Or.inr ⟨b, off, m, ?_, ?_, ?_, ?_, ?_, ?_⟩⟩
      · rw [hcs]; simp
      · intro e; simp at e; exact h0 e
      · simp; omega
      · exact World.block_lt_of_cell? W _ (hcell 0 (by omega)).1
      · intro i hi
        simp at hi
        have := (hcell i (by omega)).1
        rw [add_plain] at this
        simpa using this
      · intro s hs
        obtain ⟨i, hi, rfl⟩ := List.mem_map.1 hs
        exact (hcell i (by have := List.mem_range.1 hi; omega)).2

set_option maxRecDepth 100000 in
/-- A GateField OF THE LAWS' OWN THAT CAME IN. -/
theorem open_field {r : Reach} {b0 : Nat} {v : Value} {d : DataW H} {p : List MemPlace} (hv : Value.okWide Try.prog W r b0 75 v) (h : DataW.Trod enc Try.prog W 0 (fun _ => true) true 75 v d p) :
    ∃ (nm to df we : ByteArray) (kd le mo ro : Int) (mu fx : Bool) (wv : Value) (L : List ByteArray),
      v = .agg #[.string nm, .int .i64 kd, .int .i64 le, .int .i64 mo, wv, .string to, .int .i64 ro, .bool mu, .bool fx, .string df, .string we] ∧ StrsAt W wv L ∧
      nm.size ≤ maxLen ∧ to.size ≤ maxLen ∧ df.size ≤ maxLen ∧ we.size ≤ maxLen := by
  obtain ⟨cs, rfl, hsz⟩ := okWide_struct Try.underlying75 hv
  obtain ⟨c0, c1, c2, c3, c4, c5, c6, c7, c8, c9, c10, rfl⟩ := array11 (hsz.trans Try.cells75)
  obtain ⟨fuel, hf⟩ := h
  obtain ⟨xs, n, _, _, _, hlen, hfld⟩ := DataW.trod_struct Try.underlying75 hf
  simp only [Array.size, List.length_cons, List.length_nil] at hlen
  have g0 : DataW.trod enc Try.prog W 0 (fun _ => true) true n 9 ((([c0, c1, c2, c3, c4, c5, c6, c7, c8, c9, c10] : List Value).drop 0).take (Try.prog.cellsOf 9)) = xs[0]? := hfld 0 _ rfl
  have g1 : DataW.trod enc Try.prog W 0 (fun _ => true) true n 3 ((([c0, c1, c2, c3, c4, c5, c6, c7, c8, c9, c10] : List Value).drop 1).take (Try.prog.cellsOf 3)) = xs[1]? := hfld 1 _ rfl
  have g2 : DataW.trod enc Try.prog W 0 (fun _ => true) true n 3 ((([c0, c1, c2, c3, c4, c5, c6, c7, c8, c9, c10] : List Value).drop 2).take (Try.prog.cellsOf 3)) = xs[2]? := hfld 2 _ rfl
  have g3 : DataW.trod enc Try.prog W 0 (fun _ => true) true n 3 ((([c0, c1, c2, c3, c4, c5, c6, c7, c8, c9, c10] : List Value).drop 3).take (Try.prog.cellsOf 3)) = xs[3]? := hfld 3 _ rfl
  have g4 : DataW.trod enc Try.prog W 0 (fun _ => true) true n 44 ((([c0, c1, c2, c3, c4, c5, c6, c7, c8, c9, c10] : List Value).drop 4).take (Try.prog.cellsOf 44)) = xs[4]? := hfld 4 _ rfl
  have g5 : DataW.trod enc Try.prog W 0 (fun _ => true) true n 9 ((([c0, c1, c2, c3, c4, c5, c6, c7, c8, c9, c10] : List Value).drop 5).take (Try.prog.cellsOf 9)) = xs[5]? := hfld 5 _ rfl
  have g6 : DataW.trod enc Try.prog W 0 (fun _ => true) true n 3 ((([c0, c1, c2, c3, c4, c5, c6, c7, c8, c9, c10] : List Value).drop 6).take (Try.prog.cellsOf 3)) = xs[6]? := hfld 6 _ rfl
  have g7 : DataW.trod enc Try.prog W 0 (fun _ => true) true n 4 ((([c0, c1, c2, c3, c4, c5, c6, c7, c8, c9, c10] : List Value).drop 7).take (Try.prog.cellsOf 4)) = xs[7]? := hfld 7 _ rfl
  have g8 : DataW.trod enc Try.prog W 0 (fun _ => true) true n 4 ((([c0, c1, c2, c3, c4, c5, c6, c7, c8, c9, c10] : List Value).drop 8).take (Try.prog.cellsOf 4)) = xs[8]? := hfld 8 _ rfl
  have g9 : DataW.trod enc Try.prog W 0 (fun _ => true) true n 9 ((([c0, c1, c2, c3, c4, c5, c6, c7, c8, c9, c10] : List Value).drop 9).take (Try.prog.cellsOf 9)) = xs[9]? := hfld 9 _ rfl
  have g10 : DataW.trod enc Try.prog W 0 (fun _ => true) true n 9 ((([c0, c1, c2, c3, c4, c5, c6, c7, c8, c9, c10] : List Value).drop 10).take (Try.prog.cellsOf 9)) = xs[10]? := hfld 10 _ rfl
  simp only [Try.cells9, Try.cells3, Try.cells4, Try.cells44, List.drop_succ_cons, List.drop_zero, List.take_succ_cons, List.take_zero] at g0 g1 g2 g3 g4 g5 g6 g7 g8 g9 g10
  rw [List.getElem?_eq_getElem (by omega)] at g0 g1 g2 g3 g4 g5 g6 g7 g8 g9 g10
  obtain ⟨nm, e0, _, s0⟩ := DataW.trod_string Try.underlying9 g0
  obtain ⟨kd, e1, _, _⟩ := DataW.trod_int Try.underlying3 g1
  obtain ⟨le, e2, _, _⟩ := DataW.trod_int Try.underlying3 g2
  obtain ⟨mo, e3, _, _⟩ := DataW.trod_int Try.underlying3 g3
  obtain ⟨L, hL⟩ := open_words g4
  obtain ⟨to, e5, _, s5⟩ := DataW.trod_string Try.underlying9 g5
  obtain ⟨ro, e6, _, _⟩ := DataW.trod_int Try.underlying3 g6
  obtain ⟨mu, e7, _⟩ := DataW.trod_bool Try.underlying4 g7
  obtain ⟨fx, e8, _⟩ := DataW.trod_bool Try.underlying4 g8
  obtain ⟨df, e9, _, s9⟩ := DataW.trod_string Try.underlying9 g9
  obtain ⟨we, e10, _, s10⟩ := DataW.trod_string Try.underlying9 g10
  simp only [List.cons.injEq, and_true] at e0 e1 e2 e3 e5 e6 e7 e8 e9 e10
  subst e0 e1 e2 e3 e5 e6 e7 e8 e9 e10
  exact ⟨nm, to, df, we, kd, le, mo, ro, mu, fx, c4, L, rfl, hL, s0, s5, s9, s10⟩
end

end Go.Proofs.Ytlgakpnjicdblab
