import Derived.Test.YtfohnageehneoaaGreatUA2
import Derived.ProofKit
import Derived.Deep.Strs
import Derived.Deep.RegionHeld
import Derived.Test.YtfohnageehneoaaGreatUB1
import Derived.Test.YtfohnageehneoaaGreatUNA
import Derived.Test.YtfohnageehneoaaGreatUA1
import Derived.Test.YtfohnageehneoaaGreatUP1
namespace Go.Proofs.YtfohnageehneoaaGreat
open Go.ChangeShapes Go.WideShapes Go.ChangeAt Go.RowKit Go.Deep
open Go.ChangeMaps (open_string shut_string)

theorem Tryz.own : ownKnob Tryz.prog.godebug = none := by kernel_rfl
theorem Tryz.laidOut : laidOutB Tryz.prog = true := by kernel_rfl
theorem Tryz.cells9 : Tryz.prog.cellsOf 9 = 1 := by kernel_rfl
theorem Tryz.cells3 : Tryz.prog.cellsOf 3 = 1 := by kernel_rfl
theorem Tryz.cells4 : Tryz.prog.cellsOf 4 = 1 := by kernel_rfl
theorem Tryz.cells59 : Tryz.prog.cellsOf 59 = 1 := by kernel_rfl
theorem Tryz.cells255 : Tryz.prog.cellsOf 255 = 11 := by kernel_rfl

section
variable {H : Type} {enc : TypeId × Value → H} {W : World}

/-- A []string THAT CAME IN. -/
theorem open_words {fuel : Nat} {c : Value} {x : DataW H × List MemPlace} (h : DataW.trod enc Tryz.prog W 0 (fun _ => true) true fuel 59 [c] = some x) : ∃ L, StrsAt W c L := by
  rcases open_strs Tryz.underlying59 Tryz.underlying9 Tryz.cells9 h with ⟨hcs, _⟩ | ⟨a, len, cap, m, Sx, hcs, _, hl, hm, hmm, _, hcell⟩
  · simp only [List.cons.injEq, and_true] at hcs
    exact ⟨[], Or.inl ⟨_, _, hcs, rfl⟩⟩
  · simp only [List.cons.injEq, and_true] at hcs
    simp only [if_true] at hmm
    subst hmm
    by_cases h0 : len = 0
    · subst h0
      exact ⟨[], Or.inl ⟨_, _, hcs, rfl⟩⟩
    · obtain ⟨b, off, spot⟩ := a
      have hspot : spot = none := by simpa [Addr.add] using World.cell?_spot (hcell 0 (by omega)).1
      subst hspot
      refine ⟨(List.range len).map Sx, Or.inr ⟨b, off, m, ?_, ?_, ?_, ?_, ?_, ?_⟩⟩
      · rw [hcs]; simp
      · intro e; simp at e; exact h0 e
      · simp; omega
      · exact World.block_lt_of_cell? W _ (hcell 0 (by omega)).1
      · intro i hi
        simp at hi
        have := (hcell i (by omega)).1
        rw [add_plain] at this
        simpa using this
      · intro s hs
        obtain ⟨i, hi, rfl⟩ := List.mem_map.1 hs
        exact (hcell i (by have := List.mem_range.1 hi; omega)).2

end

end Go.Proofs.YtfohnageehneoaaGreat

namespace Go.Proofs.YtfohnageehneoaaGreat
open Go.ChangeShapes Go.WideShapes Go.ChangeAt Go.RowKit Go.Deep

theorem Tryz.cells135 : Tryz.prog.cellsOf 135 = 1 := by kernel_rfl
theorem Tryz.cells137 : Tryz.prog.cellsOf 137 = 2 := by kernel_rfl

theorem choose_list {α : Type} {p : Nat → α → Prop} (n : Nat) : (∀ i, i < n → ∃ x, p i x) → ∃ L : List α, L.length = n ∧ ∀ i (h : i < L.length), p i L[i] := by
  induction n with
  | zero => intro _; exact ⟨[], rfl, fun i h => absurd h (by simp)⟩
  | succ n ih =>
    intro h
    obtain ⟨L, hl, hL⟩ := ih (fun i hi => h i (by omega))
    obtain ⟨x, hx⟩ := h n (by omega)
    refine ⟨L ++ [x], by simp [hl], fun i hi => ?_⟩
    by_cases e : i < L.length
    · rw [List.getElem_append_left e]; exact hL i e
    · have e2 : i = n := by simp at hi; omega
      subst e2
      have : (L ++ [x])[i] = x := by rw [List.getElem_append_right (by omega)]; simp [hl]
      rw [this]; exact hx

theorem list11 {l : List Value} (h : l.length = 11) : ∃ c0 c1 c2 c3 c4 c5 c6 c7 c8 c9 c10, l = [c0, c1, c2, c3, c4, c5, c6, c7, c8, c9, c10] := by
  match l, h with
  | [c0, c1, c2, c3, c4, c5, c6, c7, c8, c9, c10], _ => exact ⟨c0, c1, c2, c3, c4, c5, c6, c7, c8, c9, c10, rfl⟩
theorem list2 {l : List Value} (h : l.length = 2) : ∃ c0 c1, l = [c0, c1] := by
  match l, h with
  | [c0, c1], _ => exact ⟨c0, c1, rfl⟩

theorem StrsAt.in0 {w : World} {v : Value} {L : List ByteArray} (h : StrsAt w v L) : StrsIn 0 w v L := by
  rcases h with h | ⟨b, off, cap, h1, h2, h3, h4, h5, h6⟩
  · exact Or.inl h
  · exact Or.inr ⟨b, off, cap, h1, h2, h3, h4, h5, h6, Nat.zero_le _⟩

section
variable {H : Type} {enc : TypeId × Value → H} {W : World}

set_option maxRecDepth 100000 in
theorem open_fd {fuel : Nat} {cs : List Value} {x : DataW H × List MemPlace} (h : DataW.trod enc Tryz.prog W 0 (fun _ => true) true fuel 255 cs = some x) :
    ∃ (f : Fd) (wv : Value), cs = [.string f.nm, .int .i64 f.kd, .int .i64 f.le, .int .i64 f.mo, wv, .string f.to, .int .i64 f.ro, .bool f.mu, .bool f.fx, .string f.df, .string f.we] ∧ StrsAt W wv f.words ∧ FdSize f := by
  obtain ⟨xs, n, _, _, hl, hlen, hfld⟩ := DataW.trod_struct Tryz.underlying255 h
  obtain ⟨c0, c1, c2, c3, c4, c5, c6, c7, c8, c9, c10, rfl⟩ := list11 (hl.trans Tryz.cells255)
  simp only [Array.size, List.length_cons, List.length_nil] at hlen
  have g0 : DataW.trod enc Tryz.prog W 0 (fun _ => true) true n 9 ((([c0, c1, c2, c3, c4, c5, c6, c7, c8, c9, c10] : List Value).drop 0).take (Tryz.prog.cellsOf 9)) = xs[0]? := hfld 0 _ rfl
  have g1 : DataW.trod enc Tryz.prog W 0 (fun _ => true) true n 3 ((([c0, c1, c2, c3, c4, c5, c6, c7, c8, c9, c10] : List Value).drop 1).take (Tryz.prog.cellsOf 3)) = xs[1]? := hfld 1 _ rfl
  have g2 : DataW.trod enc Tryz.prog W 0 (fun _ => true) true n 3 ((([c0, c1, c2, c3, c4, c5, c6, c7, c8, c9, c10] : List Value).drop 2).take (Tryz.prog.cellsOf 3)) = xs[2]? := hfld 2 _ rfl
  have g3 : DataW.trod enc Tryz.prog W 0 (fun _ => true) true n 3 ((([c0, c1, c2, c3, c4, c5, c6, c7, c8, c9, c10] : List Value).drop 3).take (Tryz.prog.cellsOf 3)) = xs[3]? := hfld 3 _ rfl
  have g4 : DataW.trod enc Tryz.prog W 0 (fun _ => true) true n 59 ((([c0, c1, c2, c3, c4, c5, c6, c7, c8, c9, c10] : List Value).drop 4).take (Tryz.prog.cellsOf 59)) = xs[4]? := hfld 4 _ rfl
  have g5 : DataW.trod enc Tryz.prog W 0 (fun _ => true) true n 9 ((([c0, c1, c2, c3, c4, c5, c6, c7, c8, c9, c10] : List Value).drop 5).take (Tryz.prog.cellsOf 9)) = xs[5]? := hfld 5 _ rfl
  have g6 : DataW.trod enc Tryz.prog W 0 (fun _ => true) true n 3 ((([c0, c1, c2, c3, c4, c5, c6, c7, c8, c9, c10] : List Value).drop 6).take (Tryz.prog.cellsOf 3)) = xs[6]? := hfld 6 _ rfl
  have g7 : DataW.trod enc Tryz.prog W 0 (fun _ => true) true n 4 ((([c0, c1, c2, c3, c4, c5, c6, c7, c8, c9, c10] : List Value).drop 7).take (Tryz.prog.cellsOf 4)) = xs[7]? := hfld 7 _ rfl
  have g8 : DataW.trod enc Tryz.prog W 0 (fun _ => true) true n 4 ((([c0, c1, c2, c3, c4, c5, c6, c7, c8, c9, c10] : List Value).drop 8).take (Tryz.prog.cellsOf 4)) = xs[8]? := hfld 8 _ rfl
  have g9 : DataW.trod enc Tryz.prog W 0 (fun _ => true) true n 9 ((([c0, c1, c2, c3, c4, c5, c6, c7, c8, c9, c10] : List Value).drop 9).take (Tryz.prog.cellsOf 9)) = xs[9]? := hfld 9 _ rfl
  have g10 : DataW.trod enc Tryz.prog W 0 (fun _ => true) true n 9 ((([c0, c1, c2, c3, c4, c5, c6, c7, c8, c9, c10] : List Value).drop 10).take (Tryz.prog.cellsOf 9)) = xs[10]? := hfld 10 _ rfl
  simp only [Tryz.cells9, Tryz.cells3, Tryz.cells4, Tryz.cells59, List.drop_succ_cons, List.drop_zero, List.take_succ_cons, List.take_zero] at g0 g1 g2 g3 g4 g5 g6 g7 g8 g9 g10
  rw [List.getElem?_eq_getElem (by omega)] at g0 g1 g2 g3 g4 g5 g6 g7 g8 g9 g10
  obtain ⟨nm, e0, _, s0⟩ := DataW.trod_string Tryz.underlying9 g0
  obtain ⟨kd, e1, _, _⟩ := DataW.trod_int Tryz.underlying3 g1
  obtain ⟨le, e2, _, _⟩ := DataW.trod_int Tryz.underlying3 g2
  obtain ⟨mo, e3, _, _⟩ := DataW.trod_int Tryz.underlying3 g3
  obtain ⟨L, hL⟩ := open_words g4
  obtain ⟨tq, e5, _, s5⟩ := DataW.trod_string Tryz.underlying9 g5
  obtain ⟨ro, e6, _, _⟩ := DataW.trod_int Tryz.underlying3 g6
  obtain ⟨mu, e7, _⟩ := DataW.trod_bool Tryz.underlying4 g7
  obtain ⟨fx, e8, _⟩ := DataW.trod_bool Tryz.underlying4 g8
  obtain ⟨df, e9, _, s9⟩ := DataW.trod_string Tryz.underlying9 g9
  obtain ⟨we, e10, _, s10⟩ := DataW.trod_string Tryz.underlying9 g10
  simp only [List.cons.injEq, and_true] at e0 e1 e2 e3 e5 e6 e7 e8 e9 e10
  subst e0 e1 e2 e3 e5 e6 e7 e8 e9 e10
  exact ⟨⟨nm, kd, le, mo, L, tq, ro, mu, fx, df, we⟩, c4, rfl, hL, ⟨s0, s5, s9, s10⟩⟩

set_option maxRecDepth 100000 in
theorem open_fds {fuel : Nat} {c : Value} {x : DataW H × List MemPlace} (h : DataW.trod enc Tryz.prog W 0 (fun _ => true) true fuel 135 [c] = some x) : ∃ Fs, FdsAt 0 W c Fs := by
  rcases open_slice Tryz.underlying135 h with ⟨hcs, _⟩ | ⟨a, len, cap, m, n, D, Pl, hcs, _, hl, hm, hmm, _, hx⟩
  · simp only [List.cons.injEq, and_true] at hcs
    exact ⟨[], Or.inl ⟨_, _, hcs, rfl⟩⟩
  · simp only [List.cons.injEq, and_true] at hcs
    simp only [if_true] at hmm
    subst hmm
    rw [Tryz.cells255] at hx
    by_cases h0 : len = 0
    · subst h0
      exact ⟨[], Or.inl ⟨_, _, hcs, rfl⟩⟩
    · obtain ⟨Fs, hF, hall⟩ := choose_list (p := fun i (f : Fd) => FdSize f ∧ ∃ wv, StrsAt W wv f.words ∧ W.cells? 0 (a.add (i * 11)) 11 = some [.string f.nm, .int .i64 f.kd, .int .i64 f.le, .int .i64 f.mo, wv, .string f.to, .int .i64 f.ro, .bool f.mu, .bool f.fx, .string f.df, .string f.we]) len (fun i hi => by
        obtain ⟨cs', h1, h2⟩ := hx i (by omega)
        obtain ⟨f, wv, e, hw, hz⟩ := open_fd h2
        rw [e] at h1
        exact ⟨f, hz, wv, hw, h1⟩)
      obtain ⟨b, off, spot⟩ := a
      have hspot : spot = none := by
        obtain ⟨_, wv, _, h1⟩ := hall 0 (by omega)
        have := (World.cells?_some h1).2.2 0 (by omega)
        rw [Nat.zero_mul] at this
        have e0 : ((⟨b, off, spot⟩ : Addr).add 0).add 0 = ⟨b, off, spot⟩ := by simp [Addr.add]
        rw [e0] at this
        simpa using World.cell?_spot (by simpa using this)
      subst hspot
      have hcell : ∀ i (hi : i < Fs.length) wv, W.cells? 0 ((⟨b, off, none⟩ : Addr).add (i * 11)) 11 = some [.string Fs[i].nm, .int .i64 Fs[i].kd, .int .i64 Fs[i].le, .int .i64 Fs[i].mo, wv, .string Fs[i].to, .int .i64 Fs[i].ro, .bool Fs[i].mu, .bool Fs[i].fx, .string Fs[i].df, .string Fs[i].we] → FdCells W b (off + i * 11) Fs[i] wv := fun i hi wv h1 => by
        obtain ⟨_, _, hc⟩ := World.cells?_some h1
        rw [add_plain] at hc
        have q := fun j (hj : j < 11) => (add_plain b (off + i * 11) j) ▸ hc j hj
        exact ⟨by simpa using q 0 (by omega), by simpa using q 1 (by omega), by simpa using q 2 (by omega), by simpa using q 3 (by omega), by simpa using q 4 (by omega), by simpa using q 5 (by omega), by simpa using q 6 (by omega), by simpa using q 7 (by omega), by simpa using q 8 (by omega), by simpa using q 9 (by omega), by simpa using q 10 (by omega)⟩
      have hbw : b < W.heap.size := by
        obtain ⟨_, wv, _, h1⟩ := hall 0 (by omega)
        exact World.block_lt_of_cell? W _ (hcell 0 (by omega) wv h1).c0
      refine ⟨Fs, Or.inr ⟨b, off, m, by rw [hcs, hF], ?_, by omega, hbw, Nat.zero_le _, by omega, fun i hi => ?_⟩⟩
      · intro e; rw [e] at hF; simp at hF; omega
      · obtain ⟨hz, wv, hw, h1⟩ := hall i hi
        exact ⟨hz, wv, hcell i hi wv h1, hw.in0⟩

set_option maxRecDepth 100000 in
theorem open_sh {fuel : Nat} {cs : List Value} {x : DataW H × List MemPlace} (h : DataW.trod enc Tryz.prog W 0 (fun _ => true) true fuel 137 cs = some x) :
    ∃ (s : Sh) (fv : Value), cs = [.string s.kind, fv] ∧ FdsAt 0 W fv s.fields ∧ s.kind.size ≤ maxLen := by
  obtain ⟨xs, n, _, _, hl, hlen, hfld⟩ := DataW.trod_struct Tryz.underlying137 h
  obtain ⟨c0, c1, rfl⟩ := list2 (hl.trans Tryz.cells137)
  simp only [Array.size, List.length_cons, List.length_nil] at hlen
  have g0 : DataW.trod enc Tryz.prog W 0 (fun _ => true) true n 9 ((([c0, c1] : List Value).drop 0).take (Tryz.prog.cellsOf 9)) = xs[0]? := hfld 0 _ rfl
  have g1 : DataW.trod enc Tryz.prog W 0 (fun _ => true) true n 135 ((([c0, c1] : List Value).drop 1).take (Tryz.prog.cellsOf 135)) = xs[1]? := hfld 1 _ rfl
  simp only [Tryz.cells9, Tryz.cells135, List.drop_succ_cons, List.drop_zero, List.take_succ_cons, List.take_zero] at g0 g1
  rw [List.getElem?_eq_getElem (by omega)] at g0 g1
  obtain ⟨kd, e0, _, s0⟩ := DataW.trod_string Tryz.underlying9 g0
  obtain ⟨Fs, hF⟩ := open_fds g1
  simp only [List.cons.injEq, and_true] at e0
  subst e0
  exact ⟨⟨kd, Fs⟩, c1, rfl, hF, s0⟩

set_option maxRecDepth 100000 in
theorem open_shs {fuel : Nat} {c : Value} {x : DataW H × List MemPlace} (h : DataW.trod enc Tryz.prog W 0 (fun _ => true) true fuel 22 [c] = some x) : ∃ Ss, ShsAt 0 W c Ss := by
  rcases open_slice Tryz.underlying22 h with ⟨hcs, _⟩ | ⟨a, len, cap, m, n, D, Pl, hcs, _, hl, hm, hmm, _, hx⟩
  · simp only [List.cons.injEq, and_true] at hcs
    exact ⟨[], Or.inl ⟨_, _, hcs, rfl⟩⟩
  · simp only [List.cons.injEq, and_true] at hcs
    simp only [if_true] at hmm
    subst hmm
    rw [Tryz.cells137] at hx
    by_cases h0 : len = 0
    · subst h0
      exact ⟨[], Or.inl ⟨_, _, hcs, rfl⟩⟩
    · obtain ⟨Ss, hF, hall⟩ := choose_list (p := fun i (s : Sh) => s.kind.size ≤ maxLen ∧ ∃ fv, FdsAt 0 W fv s.fields ∧ W.cells? 0 (a.add (i * 2)) 2 = some [.string s.kind, fv]) len (fun i hi => by
        obtain ⟨cs', h1, h2⟩ := hx i (by omega)
        obtain ⟨s, fv, e, hw, hz⟩ := open_sh h2
        rw [e] at h1
        exact ⟨s, hz, fv, hw, h1⟩)
      obtain ⟨b, off, spot⟩ := a
      have hspot : spot = none := by
        obtain ⟨_, fv, _, h1⟩ := hall 0 (by omega)
        have := (World.cells?_some h1).2.2 0 (by omega)
        rw [Nat.zero_mul] at this
        have e0 : ((⟨b, off, spot⟩ : Addr).add 0).add 0 = ⟨b, off, spot⟩ := by simp [Addr.add]
        rw [e0] at this
        simpa using World.cell?_spot (by simpa using this)
      subst hspot
      have hcell : ∀ i (hi : i < Ss.length) fv, W.cells? 0 ((⟨b, off, none⟩ : Addr).add (i * 2)) 2 = some [.string Ss[i].kind, fv] → W.cell? ⟨b, off + i * 2, none⟩ = some (.string Ss[i].kind) ∧ W.cell? ⟨b, off + i * 2 + 1, none⟩ = some fv := fun i hi fv h1 => by
        obtain ⟨_, _, hc⟩ := World.cells?_some h1
        rw [add_plain] at hc
        have q := fun j (hj : j < 2) => (add_plain b (off + i * 2) j) ▸ hc j hj
        exact ⟨by simpa using q 0 (by omega), by simpa using q 1 (by omega)⟩
      have hbw : b < W.heap.size := by
        obtain ⟨_, fv, _, h1⟩ := hall 0 (by omega)
        exact World.block_lt_of_cell? W _ (hcell 0 (by omega) fv h1).1
      refine ⟨Ss, Or.inr ⟨b, off, m, by rw [hcs, hF], ?_, by omega, hbw, Nat.zero_le _, fun i hi => ?_⟩⟩
      · intro e; rw [e] at hF; simp at hF; omega
      · obtain ⟨hz, fv, hw, h1⟩ := hall i hi
        exact ⟨hz, fv, (hcell i hi fv h1).1, (hcell i hi fv h1).2, hw⟩
end

end Go.Proofs.YtfohnageehneoaaGreat

namespace Go.Proofs.YtfohnageehneoaaGreat
open Go.ChangeShapes Go.WideShapes Go.ChangeAt Go.RowKit Go.Deep


end Go.Proofs.YtfohnageehneoaaGreat

namespace Go.Proofs.YtfohnageehneoaaGreat
open Go.ChangeShapes Go.WideShapes Go.ChangeAt Go.RowKit Go.Deep

theorem Tryz.cells140 : Tryz.prog.cellsOf 140 = 6 := by kernel_rfl
theorem list6 {l : List Value} (h : l.length = 6) : ∃ c0 c1 c2 c3 c4 c5, l = [c0, c1, c2, c3, c4, c5] := by
  match l, h with
  | [c0, c1, c2, c3, c4, c5], _ => exact ⟨c0, c1, c2, c3, c4, c5, rfl⟩
section
variable {H : Type} {enc : TypeId × Value → H} {W : World}
set_option maxRecDepth 100000 in
theorem open_md {fuel : Nat} {cs : List Value} {x : DataW H × List MemPlace} (h : DataW.trod enc Tryz.prog W 0 (fun _ => true) true fuel 140 cs = some x) :
    ∃ (m : Md), cs = [.string m.kind, .string m.field, .string m.wh, .string m.is, .string m.put, .string m.fr] ∧ MdSize m := by
  obtain ⟨xs, n, _, _, hl, hlen, hfld⟩ := DataW.trod_struct Tryz.underlying140 h
  obtain ⟨c0, c1, c2, c3, c4, c5, rfl⟩ := list6 (hl.trans Tryz.cells140)
  simp only [Array.size, List.length_cons, List.length_nil] at hlen
  have g0 : DataW.trod enc Tryz.prog W 0 (fun _ => true) true n 9 ((([c0, c1, c2, c3, c4, c5] : List Value).drop 0).take (Tryz.prog.cellsOf 9)) = xs[0]? := hfld 0 _ rfl
  have g1 : DataW.trod enc Tryz.prog W 0 (fun _ => true) true n 9 ((([c0, c1, c2, c3, c4, c5] : List Value).drop 1).take (Tryz.prog.cellsOf 9)) = xs[1]? := hfld 1 _ rfl
  have g2 : DataW.trod enc Tryz.prog W 0 (fun _ => true) true n 9 ((([c0, c1, c2, c3, c4, c5] : List Value).drop 2).take (Tryz.prog.cellsOf 9)) = xs[2]? := hfld 2 _ rfl
  have g3 : DataW.trod enc Tryz.prog W 0 (fun _ => true) true n 9 ((([c0, c1, c2, c3, c4, c5] : List Value).drop 3).take (Tryz.prog.cellsOf 9)) = xs[3]? := hfld 3 _ rfl
  have g4 : DataW.trod enc Tryz.prog W 0 (fun _ => true) true n 9 ((([c0, c1, c2, c3, c4, c5] : List Value).drop 4).take (Tryz.prog.cellsOf 9)) = xs[4]? := hfld 4 _ rfl
  have g5 : DataW.trod enc Tryz.prog W 0 (fun _ => true) true n 9 ((([c0, c1, c2, c3, c4, c5] : List Value).drop 5).take (Tryz.prog.cellsOf 9)) = xs[5]? := hfld 5 _ rfl
  simp only [Tryz.cells9, List.drop_succ_cons, List.drop_zero, List.take_succ_cons, List.take_zero] at g0 g1 g2 g3 g4 g5
  rw [List.getElem?_eq_getElem (by omega)] at g0 g1 g2 g3 g4 g5
  obtain ⟨k, e0, _, s0⟩ := DataW.trod_string Tryz.underlying9 g0
  obtain ⟨f, e1, _, s1⟩ := DataW.trod_string Tryz.underlying9 g1
  obtain ⟨wh, e2, _, s2⟩ := DataW.trod_string Tryz.underlying9 g2
  obtain ⟨is, e3, _, s3⟩ := DataW.trod_string Tryz.underlying9 g3
  obtain ⟨pu, e4, _, s4⟩ := DataW.trod_string Tryz.underlying9 g4
  obtain ⟨fr, e5, _, s5⟩ := DataW.trod_string Tryz.underlying9 g5
  simp only [List.cons.injEq, and_true] at e0 e1 e2 e3 e4 e5
  subst e0 e1 e2 e3 e4 e5
  exact ⟨⟨k, f, wh, is, pu, fr⟩, rfl, ⟨s0, s1, s2, s3, s4, s5⟩⟩

set_option maxRecDepth 100000 in
theorem open_mds {fuel : Nat} {c : Value} {x : DataW H × List MemPlace} (h : DataW.trod enc Tryz.prog W 0 (fun _ => true) true fuel 23 [c] = some x) : ∃ Ms, MdsAt 0 W c Ms := by
  rcases open_slice Tryz.underlying23 h with ⟨hcs, _⟩ | ⟨a, len, cap, m, n, D, Pl, hcs, _, hl, hm, hmm, _, hx⟩
  · simp only [List.cons.injEq, and_true] at hcs
    exact ⟨[], Or.inl ⟨_, _, hcs, rfl⟩⟩
  · simp only [List.cons.injEq, and_true] at hcs
    simp only [if_true] at hmm
    subst hmm
    rw [Tryz.cells140] at hx
    by_cases h0 : len = 0
    · subst h0
      exact ⟨[], Or.inl ⟨_, _, hcs, rfl⟩⟩
    · obtain ⟨Ms, hF, hall⟩ := choose_list (p := fun i (m : Md) => MdSize m ∧ W.cells? 0 (a.add (i * 6)) 6 = some [.string m.kind, .string m.field, .string m.wh, .string m.is, .string m.put, .string m.fr]) len (fun i hi => by
        obtain ⟨cs', h1, h2⟩ := hx i (by omega)
        obtain ⟨md, e, hz⟩ := open_md h2
        rw [e] at h1
        exact ⟨md, hz, h1⟩)
      obtain ⟨b, off, spot⟩ := a
      have hspot : spot = none := by
        obtain ⟨_, h1⟩ := hall 0 (by omega)
        have := (World.cells?_some h1).2.2 0 (by omega)
        rw [Nat.zero_mul] at this
        have e0 : ((⟨b, off, spot⟩ : Addr).add 0).add 0 = ⟨b, off, spot⟩ := by simp [Addr.add]
        rw [e0] at this
        simpa using World.cell?_spot (by simpa using this)
      subst hspot
      have hcell : ∀ i (hi : i < Ms.length), W.cells? 0 ((⟨b, off, none⟩ : Addr).add (i * 6)) 6 = some [.string Ms[i].kind, .string Ms[i].field, .string Ms[i].wh, .string Ms[i].is, .string Ms[i].put, .string Ms[i].fr] → MdCells W b (off + i * 6) Ms[i] := fun i hi h1 => by
        obtain ⟨_, _, hc⟩ := World.cells?_some h1
        rw [add_plain] at hc
        have q := fun j (hj : j < 6) => (add_plain b (off + i * 6) j) ▸ hc j hj
        exact ⟨by simpa using q 0 (by omega), by simpa using q 1 (by omega), by simpa using q 2 (by omega), by simpa using q 3 (by omega), by simpa using q 4 (by omega), by simpa using q 5 (by omega)⟩
      have hbw : b < W.heap.size := by
        obtain ⟨_, h1⟩ := hall 0 (by omega)
        exact World.block_lt_of_cell? W _ (hcell 0 (by omega) h1).c0
      refine ⟨Ms, Or.inr ⟨b, off, m, by rw [hcs, hF], ?_, by omega, hbw, Nat.zero_le _, by omega, fun i hi => ?_⟩⟩
      · intro e; rw [e] at hF; simp at hF; omega
      · obtain ⟨hz, h1⟩ := hall i hi
        exact ⟨hz, hcell i hi h1⟩
end
end Go.Proofs.YtfohnageehneoaaGreat


