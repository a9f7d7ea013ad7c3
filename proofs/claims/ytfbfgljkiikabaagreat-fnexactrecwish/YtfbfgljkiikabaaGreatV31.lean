import Derived.Test.YtfbfgljkiikabaaGreatV23
import Derived.Test.YtfbfgljkiikabaaGreatV24
import Derived.Test.YtfbfgljkiikabaaGreatV30
namespace Go.Proofs.YtfbfgljkiikabaaGreat
open Go.ChangeShapes Go.WideShapes Go.ChangeAt Go.RowKit Go.Deep
theorem Tryz.cells22 : Tryz.prog.cellsOf 22 = 1 := by kernel_rfl
theorem Tryz.cells24 : Tryz.prog.cellsOf 24 = 3 := by kernel_rfl
theorem lstRd {l : List Value} (h : l.length = 3) : ∃ c0 c1 c2, l = [c0, c1, c2] := by
  match l, h with
  | [c0, c1, c2], _ => exact ⟨c0, c1, c2, rfl⟩
section
variable {H : Type} {enc : TypeId × Value → H} {W : World}
set_option maxRecDepth 100000 in
theorem open_Rd0 {fuel : Nat} {cs : List Value} {x : DataW H × List MemPlace} (h : DataW.trod enc Tryz.prog W 0 (fun _ => true) true fuel 24 cs = some x) : ∃ U, RdC 0 W cs U := by
  obtain ⟨xs, n, _, _, hl, hlen, hfld⟩ := DataW.trod_struct Tryz.underlying24 h
  obtain ⟨c0, c1, c2, rfl⟩ := lstRd (hl.trans Tryz.cells24)
  simp only [Array.size, List.length_cons, List.length_nil] at hlen
  have g0 : DataW.trod enc Tryz.prog W 0 (fun _ => true) true n 3 ((([c0, c1, c2] : List Value).drop 0).take (Tryz.prog.cellsOf 3)) = xs[0]? := hfld 0 _ rfl
  have g1 : DataW.trod enc Tryz.prog W 0 (fun _ => true) true n 3 ((([c0, c1, c2] : List Value).drop 1).take (Tryz.prog.cellsOf 3)) = xs[1]? := hfld 1 _ rfl
  have g2 : DataW.trod enc Tryz.prog W 0 (fun _ => true) true n 22 ((([c0, c1, c2] : List Value).drop 2).take (Tryz.prog.cellsOf 22)) = xs[2]? := hfld 2 _ rfl
  simp only [Tryz.cells3, Tryz.cells22, List.drop_succ_cons, List.drop_zero, List.take_succ_cons, List.take_zero] at g0 g1 g2
  rw [List.getElem?_eq_getElem (by omega)] at g0 g1 g2
  obtain ⟨q0, e0, _, _⟩ := DataW.trod_int Tryz.underlying3 g0
  simp only [List.cons.injEq, and_true] at e0
  subst e0
  obtain ⟨q1, e1, _, _⟩ := DataW.trod_int Tryz.underlying3 g1
  simp only [List.cons.injEq, and_true] at e1
  subst e1
  obtain ⟨q2, h2⟩ := open_Rss g2
  obtain ⟨a0, k0, rfl⟩ := h2.form
  exact ⟨⟨q0, q1, q2⟩, a0, k0, rfl, ⟨h2⟩⟩
set_option maxRecDepth 100000 in
theorem open_Rd {r : Reach} {b0 : Nat} {v : Value} {d : DataW H} {p : List MemPlace} (hv : Value.okWide Tryz.prog W r b0 24 v) (h : DataW.Trod enc Tryz.prog W 0 (fun _ => true) true 24 v d p) : ∃ (cs : List Value) (U : Rd), v = .agg cs.toArray ∧ RdC 0 W cs U := by
  obtain ⟨cs, rfl, hsz⟩ := okWide_struct Tryz.underlying24 hv
  obtain ⟨fuel, hf⟩ := h
  obtain ⟨U, hU⟩ := open_Rd0 (cs := cs.toList) hf
  exact ⟨cs.toList, U, rfl, hU⟩
end
theorem Tryz.cells32 : Tryz.prog.cellsOf 32 = 8 := by kernel_rfl
theorem lstRm {l : List Value} (h : l.length = 8) : ∃ c0 c1 c2 c3 c4 c5 c6 c7, l = [c0, c1, c2, c3, c4, c5, c6, c7] := by
  match l, h with
  | [c0, c1, c2, c3, c4, c5, c6, c7], _ => exact ⟨c0, c1, c2, c3, c4, c5, c6, c7, rfl⟩
section
variable {H : Type} {enc : TypeId × Value → H} {W : World}
set_option maxRecDepth 100000 in
theorem open_Rm0 {fuel : Nat} {cs : List Value} {x : DataW H × List MemPlace} (h : DataW.trod enc Tryz.prog W 0 (fun _ => true) true fuel 32 cs = some x) : ∃ U, RmC 0 W cs U := by
  obtain ⟨xs, n, _, _, hl, hlen, hfld⟩ := DataW.trod_struct Tryz.underlying32 h
  obtain ⟨c0, c1, c2, c3, c4, c5, c6, c7, rfl⟩ := lstRm (hl.trans Tryz.cells32)
  simp only [Array.size, List.length_cons, List.length_nil] at hlen
  have g0 : DataW.trod enc Tryz.prog W 0 (fun _ => true) true n 3 ((([c0, c1, c2, c3, c4, c5, c6, c7] : List Value).drop 0).take (Tryz.prog.cellsOf 3)) = xs[0]? := hfld 0 _ rfl
  have g1 : DataW.trod enc Tryz.prog W 0 (fun _ => true) true n 3 ((([c0, c1, c2, c3, c4, c5, c6, c7] : List Value).drop 1).take (Tryz.prog.cellsOf 3)) = xs[1]? := hfld 1 _ rfl
  have g2 : DataW.trod enc Tryz.prog W 0 (fun _ => true) true n 3 ((([c0, c1, c2, c3, c4, c5, c6, c7] : List Value).drop 2).take (Tryz.prog.cellsOf 3)) = xs[2]? := hfld 2 _ rfl
  have g3 : DataW.trod enc Tryz.prog W 0 (fun _ => true) true n 3 ((([c0, c1, c2, c3, c4, c5, c6, c7] : List Value).drop 3).take (Tryz.prog.cellsOf 3)) = xs[3]? := hfld 3 _ rfl
  have g4 : DataW.trod enc Tryz.prog W 0 (fun _ => true) true n 3 ((([c0, c1, c2, c3, c4, c5, c6, c7] : List Value).drop 4).take (Tryz.prog.cellsOf 3)) = xs[4]? := hfld 4 _ rfl
  have g5 : DataW.trod enc Tryz.prog W 0 (fun _ => true) true n 3 ((([c0, c1, c2, c3, c4, c5, c6, c7] : List Value).drop 5).take (Tryz.prog.cellsOf 3)) = xs[5]? := hfld 5 _ rfl
  have g6 : DataW.trod enc Tryz.prog W 0 (fun _ => true) true n 9 ((([c0, c1, c2, c3, c4, c5, c6, c7] : List Value).drop 6).take (Tryz.prog.cellsOf 9)) = xs[6]? := hfld 6 _ rfl
  have g7 : DataW.trod enc Tryz.prog W 0 (fun _ => true) true n 22 ((([c0, c1, c2, c3, c4, c5, c6, c7] : List Value).drop 7).take (Tryz.prog.cellsOf 22)) = xs[7]? := hfld 7 _ rfl
  simp only [Tryz.cells3, Tryz.cells9, Tryz.cells22, List.drop_succ_cons, List.drop_zero, List.take_succ_cons, List.take_zero] at g0 g1 g2 g3 g4 g5 g6 g7
  rw [List.getElem?_eq_getElem (by omega)] at g0 g1 g2 g3 g4 g5 g6 g7
  obtain ⟨q0, e0, _, _⟩ := DataW.trod_int Tryz.underlying3 g0
  simp only [List.cons.injEq, and_true] at e0
  subst e0
  obtain ⟨q1, e1, _, _⟩ := DataW.trod_int Tryz.underlying3 g1
  simp only [List.cons.injEq, and_true] at e1
  subst e1
  obtain ⟨q2, e2, _, _⟩ := DataW.trod_int Tryz.underlying3 g2
  simp only [List.cons.injEq, and_true] at e2
  subst e2
  obtain ⟨q3, e3, _, _⟩ := DataW.trod_int Tryz.underlying3 g3
  simp only [List.cons.injEq, and_true] at e3
  subst e3
  obtain ⟨q4, e4, _, _⟩ := DataW.trod_int Tryz.underlying3 g4
  simp only [List.cons.injEq, and_true] at e4
  subst e4
  obtain ⟨q5, e5, _, _⟩ := DataW.trod_int Tryz.underlying3 g5
  simp only [List.cons.injEq, and_true] at e5
  subst e5
  obtain ⟨q6, e6, _, t6⟩ := DataW.trod_string Tryz.underlying9 g6
  simp only [List.cons.injEq, and_true] at e6
  subst e6
  obtain ⟨q7, h7⟩ := open_Rss g7
  obtain ⟨a0, k0, rfl⟩ := h7.form
  exact ⟨⟨q0, q1, q2, q3, q4, q5, q6, q7⟩, a0, k0, rfl, ⟨h7, t6⟩⟩
set_option maxRecDepth 100000 in
theorem open_Rm {r : Reach} {b0 : Nat} {v : Value} {d : DataW H} {p : List MemPlace} (hv : Value.okWide Tryz.prog W r b0 32 v) (h : DataW.Trod enc Tryz.prog W 0 (fun _ => true) true 32 v d p) : ∃ (cs : List Value) (U : Rm), v = .agg cs.toArray ∧ RmC 0 W cs U := by
  obtain ⟨cs, rfl, hsz⟩ := okWide_struct Tryz.underlying32 hv
  obtain ⟨fuel, hf⟩ := h
  obtain ⟨U, hU⟩ := open_Rm0 (cs := cs.toList) hf
  exact ⟨cs.toList, U, rfl, hU⟩
end
end Go.Proofs.YtfbfgljkiikabaaGreat
namespace Go.Proofs.YtfbfgljkiikabaaGreat
open Go.RowKit Go.Deep

theorem NRow.rts {w : World} {lo hi : Nat} {v : Value} {L : List ByteArray} (h : NRow tyL 1 w lo hi v L) (hz : ∀ i (h : i < L.length), L[i].size ≤ maxLen) : RtsOwn lo hi w v L := by
  rcases h with ⟨h, rfl⟩ | h
  · exact Or.inl ⟨_, _, h, rfl⟩
  · exact h.rts hz
theorem NRow.ris {w : World} {lo hi : Nat} {v : Value} {L : List Int} (h : NRow inL 1 w lo hi v L) : RisOwn lo hi w v L := by
  rcases h with ⟨h, rfl⟩ | h
  · exact Or.inl ⟨_, _, h, rfl⟩
  · exact h.ris
/-- lists of things that have a list of their own inside (P x w lo hi: the list inside x lies in [lo, hi)), each in a part of [lo, hi) apart from the others' and from the block g -/
structure Inns {X : Type} (P : X → World → Nat → Nat → Prop) (w : World) (lo hi g : Nat) (L : List X) (c : Nat → Nat × Nat) : Prop where
  seg : ∀ i, i < L.length → lo ≤ (c i).1 ∧ (c i).1 ≤ (c i).2 ∧ (c i).2 ≤ hi ∧ (g < (c i).1 ∨ (c i).2 ≤ g)
  ap : ∀ i j, i < L.length → j < L.length → i ≠ j → (c i).2 ≤ (c j).1 ∨ (c j).2 ≤ (c i).1
  inn : ∀ i (h : i < L.length), P L[i] w (c i).1 (c i).2
structure Clo {X : Type} (P : X → World → Nat → Nat → Prop) : Prop where
  cb : ∀ {x : X} {w w' : World} {lo hi : Nat}, P x w lo hi → Below w.heap.size w w' → P x w' lo hi
  ct : ∀ {x : X} {w w' : World} {lo hi lo' hi' : Nat}, P x w lo hi → Touch lo' hi' w w' → (hi ≤ lo' ∨ hi' ≤ lo) → P x w' lo hi
theorem Inns.below {X : Type} {P : X → World → Nat → Nat → Prop} (hP : Clo P) {w w' : World} {lo hi g : Nat} {L : List X} {c : Nat → Nat × Nat} (h : Inns P w lo hi g L c) (hb : Below w.heap.size w w') : Inns P w' lo hi g L c :=
  ⟨h.seg, h.ap, fun i hi => hP.cb (h.inn i hi) hb⟩
theorem Inns.touch {X : Type} {P : X → World → Nat → Nat → Prop} (hP : Clo P) {w w' : World} {lo hi g lo' hi' : Nat} {L : List X} {c : Nat → Nat × Nat} (h : Inns P w lo hi g L c) (ht : Touch lo' hi' w w') (ho : ∀ i, i < L.length → (c i).2 ≤ lo' ∨ hi' ≤ (c i).1) : Inns P w' lo hi g L c :=
  ⟨h.seg, h.ap, fun i hi => hP.ct (h.inn i hi) ht (ho i hi)⟩
theorem Inns.wide {X : Type} {P : X → World → Nat → Nat → Prop} {w : World} {lo hi lo' hi' g : Nat} {L : List X} {c : Nat → Nat × Nat} (h : Inns P w lo hi g L c) (h1 : lo' ≤ lo) (h2 : hi ≤ hi') : Inns P w lo' hi' g L c :=
  ⟨fun i hi => by have := h.seg i hi; omega, h.ap, h.inn⟩
/-- such a row, in [lo, hi) -/
def GRow {X : Type} (P : X → World → Nat → Nat → Prop) (f : X → List Value) (n : Nat) (w : World) (lo hi : Nat) (v : Value) (L : List X) : Prop := ∃ g c, FRow f n w g (g + 1) v L ∧ lo ≤ g ∧ g < hi ∧ Inns P w lo hi g L c
def NGRow {X : Type} (P : X → World → Nat → Nat → Prop) (f : X → List Value) (n : Nat) (w : World) (lo hi : Nat) (v : Value) (L : List X) : Prop := (v = .slice none 0 0 ∧ L = []) ∨ GRow P f n w lo hi v L
theorem NGRow.below {X : Type} {P : X → World → Nat → Nat → Prop} (hP : Clo P) {f : X → List Value} {n : Nat} {w w' : World} {lo hi : Nat} {v : Value} {L : List X} (h : NGRow P f n w lo hi v L) (hb : Below w.heap.size w w') : NGRow P f n w' lo hi v L :=
  h.imp id fun ⟨g, c, h1, h2, h3, h4⟩ => ⟨g, c, h1.below hb, h2, h3, h4.below hP hb⟩
theorem NGRow.touch {X : Type} {P : X → World → Nat → Nat → Prop} (hP : Clo P) {f : X → List Value} {n : Nat} {w w' : World} {lo hi lo' hi' : Nat} {v : Value} {L : List X} (h : NGRow P f n w lo hi v L) (ht : Touch lo' hi' w w') (ho : hi ≤ lo' ∨ hi' ≤ lo) : NGRow P f n w' lo hi v L :=
  h.imp id fun ⟨g, c, h1, h2, h3, h4⟩ => ⟨g, c, h1.touch ht (by omega), h2, h3, h4.touch hP ht fun i hi => by have := h4.seg i hi; omega⟩
theorem NGRow.wide {X : Type} {P : X → World → Nat → Nat → Prop} {f : X → List Value} {n : Nat} {w : World} {lo hi lo' hi' : Nat} {v : Value} {L : List X} (h : NGRow P f n w lo hi v L) (h1 : lo' ≤ lo) (h2 : hi ≤ hi') : NGRow P f n w lo' hi' v L :=
  h.imp id fun ⟨g, c, e1, e2, e3, e4⟩ => ⟨g, c, e1, by omega, by omega, e4.wide h1 h2⟩
theorem NGRow.set {X : Type} {P : X → World → Nat → Nat → Prop} (hP : Clo P) {f : X → List Value} {n : Nat} {w : World} {lo hi : Nat} {v : Value} {L : List X} (h : NGRow P f n w lo hi v L) {p : Addr} (hp : p.block < lo) (u : Value) : NGRow P f n (w.setCell p u) lo hi v L :=
  h.touch hP (Touch.setCell p.block (p.block + 1) w p u ⟨Nat.le_refl _, Nat.lt_succ_self _⟩) (Or.inr hp)
theorem NGRow.form {X : Type} {P : X → World → Nat → Nat → Prop} {f : X → List Value} {n : Nat} {w : World} {lo hi : Nat} {v : Value} {L : List X} (h : NGRow P f n w lo hi v L) : ∃ a c, v = .slice a L.length c := by
  rcases h with ⟨h, rfl⟩ | ⟨_, _, ⟨g, cap, h, _⟩, _⟩
  · exact ⟨none, 0, h⟩
  · exact ⟨_, _, h⟩
/-- one more part behind the others -/
def cSnoc (c : Nat → Nat × Nat) (n : Nat) (p : Nat × Nat) : Nat → Nat × Nat := fun i => if i = n then p else c i
theorem Inns.snoc {X : Type} {P : X → World → Nat → Nat → Prop} {w : World} {lo hi g : Nat} {L : List X} {c : Nat → Nat × Nat} (h : Inns P w lo hi g L c) {x : X} {l u : Nat} (hx : P x w l u) (h1 : lo ≤ l) (h0 : l ≤ u) (h2 : u ≤ hi) (h3 : g < l ∨ u ≤ g) (h4 : ∀ i, i < L.length → (c i).2 ≤ l ∨ u ≤ (c i).1) : Inns P w lo hi g (L ++ [x]) (cSnoc c L.length (l, u)) := by
  have e1 : ∀ i, i < L.length → cSnoc c L.length (l, u) i = c i := fun i hi => if_neg (by omega)
  have e2 : cSnoc c L.length (l, u) L.length = (l, u) := if_pos rfl
  have hl : (L ++ [x]).length = L.length + 1 := by simp
  refine ⟨fun i hi => ?_, fun i j hi hj hne => ?_, fun i hi => ?_⟩
  · by_cases e : i < L.length
    · rw [e1 i e]; exact h.seg i e
    · obtain rfl : i = L.length := by omega
      rw [e2]; exact ⟨h1, h0, h2, h3⟩
  · by_cases e : i < L.length
    · rw [e1 i e]
      by_cases e' : j < L.length
      · rw [e1 j e']; exact h.ap i j e e' hne
      · obtain rfl : j = L.length := by omega
        rw [e2]; exact h4 i e
    · obtain rfl : i = L.length := by omega
      rw [e2, e1 j (by omega)]
      exact (h4 j (by omega)).symm
  · by_cases e : i < L.length
    · rw [e1 i e, List.getElem_append_left e]; exact h.inn i e
    · obtain rfl : i = L.length := by omega
      rw [e2]
      simpa using hx
def PM (x : MX) (w : World) (lo hi : Nat) : Prop := NRow rsL 2 w lo hi (.slice x.2.1 x.1.sl.length x.2.2) x.1.sl
def PA (x : AX) (w : World) (lo hi : Nat) : Prop := NRow inL 1 w lo hi (.slice x.2.1 x.1.fr.length x.2.2) x.1.fr
theorem cloM : Clo PM := ⟨fun h hb => NRow.below h hb, fun h ht ho => NRow.touch h ht ho⟩
theorem cloA : Clo PA := ⟨fun h hb => NRow.below h hb, fun h ht ho => NRow.touch h ht ho⟩
theorem NGRow.rms {w : World} {lo hi : Nat} {v : Value} {L : List MX} {Xl : List Rm} (h : NGRow PM mxL 8 w lo hi v L) (hL : L.map (·.1) = Xl) (hz : ∀ i (h : i < Xl.length), (∀ j (hj : j < Xl[i].sl.length), RsSize Xl[i].sl[j]) ∧ Xl[i].tx.size ≤ maxLen) : RmsOwn lo hi w v Xl := by
  subst hL
  rcases h with ⟨h, rfl⟩ | ⟨g, c, ⟨g', cap, h1, h2⟩, hlo, hhi, hi4⟩
  · exact Or.inl ⟨_, _, h, rfl⟩
  · obtain rfl : g' = g := by have := h2.bs; have := h2.up; omega
    by_cases hne : L = []
    · subst hne; exact Or.inl ⟨_, _, h1, rfl⟩
    have h0 : 0 < L.length := List.length_pos_iff.2 hne
    have hcell : ∀ i (hi : i < L.length) (t : Nat) (ht : t < 8) (u : Value), (mxL L[i])[t]? = some u → w.cell? ⟨g', 0 + i * 8 + t, none⟩ = some u := fun i hi t ht u hu => by
      rw [Nat.zero_add]; exact h2.get mxL_len hi ht hu
    refine Or.inr ⟨g', 0, cap, c, fun i => if h : i < L.length then L[i].1 else L[0].1, by rw [List.length_map]; exact h1, by simpa using hne, by rw [List.length_map]; exact Nat.le_trans h2.le h2.mx, by rw [List.length_map]; exact h2.le, fun i hi => ?_, h2.lt, hlo, hhi, fun i hi => by have := hi4.seg i (by simpa using hi); omega, fun i j hi hj => hi4.ap i j (by simpa using hi) (by simpa using hj), h2.fz, fun i hi => ?_⟩
    · rw [List.length_map] at hi
      simp [hi]
    · rw [List.length_map] at hi
      have hzi := hz i (by simpa using hi)
      simp only [List.getElem_map] at hzi
      simp only [hi, dif_pos]
      have hin : NRow rsL 2 w (c i).1 (c i).2 (.slice L[i].2.1 L[i].1.sl.length L[i].2.2) L[i].1.sl := hi4.inn i hi
      exact ⟨⟨hzi.2⟩, .slice L[i].2.1 L[i].1.sl.length L[i].2.2, (hi4.seg i hi).2.1, ⟨hcell i hi 0 (by omega) _ rfl, hcell i hi 1 (by omega) _ rfl, hcell i hi 2 (by omega) _ rfl, hcell i hi 3 (by omega) _ rfl, hcell i hi 4 (by omega) _ rfl, hcell i hi 5 (by omega) _ rfl, hcell i hi 6 (by omega) _ rfl, hcell i hi 7 (by omega) _ rfl⟩, hin.rss hzi.1⟩
theorem NGRow.ras {w : World} {lo hi : Nat} {v : Value} {L : List AX} {Xl : List Ra} (h : NGRow PA axL 2 w lo hi v L) (hL : L.map (·.1) = Xl) : RasOwn lo hi w v Xl := by
  subst hL
  rcases h with ⟨h, rfl⟩ | ⟨g, c, ⟨g', cap, h1, h2⟩, hlo, hhi, hi4⟩
  · exact Or.inl ⟨_, _, h, rfl⟩
  · obtain rfl : g' = g := by have := h2.bs; have := h2.up; omega
    by_cases hne : L = []
    · subst hne; exact Or.inl ⟨_, _, h1, rfl⟩
    have h0 : 0 < L.length := List.length_pos_iff.2 hne
    have hcell : ∀ i (hi : i < L.length) (t : Nat) (ht : t < 2) (u : Value), (axL L[i])[t]? = some u → w.cell? ⟨g', 0 + i * 2 + t, none⟩ = some u := fun i hi t ht u hu => by
      rw [Nat.zero_add]; exact h2.get axL_len hi ht hu
    refine Or.inr ⟨g', 0, cap, c, fun i => if h : i < L.length then L[i].1 else L[0].1, by rw [List.length_map]; exact h1, by simpa using hne, by rw [List.length_map]; exact Nat.le_trans h2.le h2.mx, by rw [List.length_map]; exact h2.le, fun i hi => ?_, h2.lt, hlo, hhi, fun i hi => by have := hi4.seg i (by simpa using hi); omega, fun i j hi hj => hi4.ap i j (by simpa using hi) (by simpa using hj), h2.fz, fun i hi => ?_⟩
    · rw [List.length_map] at hi
      simp [hi]
    · rw [List.length_map] at hi
      simp only [hi, dif_pos]
      have hin : NRow inL 1 w (c i).1 (c i).2 (.slice L[i].2.1 L[i].1.fr.length L[i].2.2) L[i].1.fr := hi4.inn i hi
      exact ⟨rfl, .slice L[i].2.1 L[i].1.fr.length L[i].2.2, (hi4.seg i hi).2.1, ⟨hcell i hi 0 (by omega) _ rfl, hcell i hi 1 (by omega) _ rfl⟩, hin.ris⟩
end Go.Proofs.YtfbfgljkiikabaaGreat
namespace Go.Proofs.YtfbfgljkiikabaaGreat
open Go.RowKit Go.Deep

/-- sizes of what a recorder holds -/
structure RrZ (U : Rr) : Prop where
  z0 : ∀ i (h : i < U.sf.sl.length), RsSize U.sf.sl[i]
  z1 : ∀ i (h : i < U.dk.sl.length), RsSize U.dk.sl[i]
  z2 : ∀ i (h : i < U.he.length), (∀ j (hj : j < U.he[i].sl.length), RsSize U.he[i].sl[j]) ∧ U.he[i].tx.size ≤ maxLen
  z3 : ∀ i (h : i < U.wi.length), U.wi[i].size ≤ maxLen
  z5 : ∀ i (h : i < U.be.length), RsSize U.be[i]
theorem RrC.sizes {lo : Nat} {w : World} {cs : List Value} {U : Rr} (h : RrC lo w cs U) : RrZ U := by
  obtain ⟨_, _, _, _, _, _, _, _, _, _, _, _, _, _, -, h⟩ := h
  exact ⟨h.l0.sizes, h.l1.sizes, h.l2.sizes, h.l3.sizes, h.l5.sizes⟩
theorem Cpy.at {w : World} {lo : Nat} {c : Nat → Nat × Nat} {v0 v1 v2 v3 v4 v5 v6 : Value} {U : Rr} (h : Cpy w lo c v0 v1 v2 v3 v4 v5 v6 U) (hz : RrZ U) : RrAt lo w v0 v1 v2 v3 v4 v5 v6 U := by
  obtain ⟨g2, L2, hm, hL2⟩ := h.o2
  obtain ⟨g6, L6, ha, hL6⟩ := h.o6
  exact ⟨(h.o0.rss hz.z0).at.mono (h.seg 0 (by decide)).1, (h.o1.rss hz.z1).at.mono (h.seg 1 (by decide)).1, (hm.rms hL2 hz.z2).mono (h.seg 2 (by decide)).1, (h.o3.rts hz.z3).at.mono (h.seg 3 (by decide)).1, h.o4.ris.at.mono (h.seg 4 (by decide)).1, (h.o5.rss hz.z5).at.mono (h.seg 5 (by decide)).1, (ha.ras hL6).mono (h.seg 6 (by decide)).1⟩
theorem Cpy.below {w w' : World} {lo : Nat} {c : Nat → Nat × Nat} {v0 v1 v2 v3 v4 v5 v6 : Value} {U : Rr} (h : Cpy w lo c v0 v1 v2 v3 v4 v5 v6 U) (hb : Below w.heap.size w w') : Cpy w' lo c v0 v1 v2 v3 v4 v5 v6 U := by
  obtain ⟨g2, L2, hm, hL2⟩ := h.o2
  obtain ⟨g6, L6, ha, hL6⟩ := h.o6
  exact ⟨fun i hi => ⟨(h.seg i hi).1, Nat.le_trans (h.seg i hi).2 hb.size⟩, h.ap, h.o0.below hb, h.o1.below hb, ⟨g2, L2, hm.below hb, hL2⟩, h.o3.below hb, h.o4.below hb, h.o5.below hb, ⟨g6, L6, ha.below hb, hL6⟩⟩
/-- a text among slots that were taken -/
def hasSl (L : List Rs) (tx : ByteArray) : Bool := L.any (fun x => decide (0 < x.ba) && (x.tx.toList == tx.toList))
theorem any_yes {X : Type} {L : List X} {f : X → Bool} {k : Nat} (hk : k < L.length) (h : f L[k] = true) : L.any f = true := by
  rw [List.any_eq_true]
  exact ⟨L[k], List.getElem_mem hk, h⟩
theorem any_no {X : Type} {L : List X} {f : X → Bool} (h : ∀ i (h : i < L.length), f L[i] = false) : L.any f = false := by
  rw [List.any_eq_false]
  intro x hx
  obtain ⟨i, hi, rfl⟩ := List.getElem_of_mem hx
  rw [h i hi]; simp

set_option maxRecDepth 20000 in
set_option maxHeartbeats 4000000 in
theorem hasF_any (lo : Nat) (v : Value) (L : List Rs) (tx : ByteArray) (w : World) (hv : RssAt lo w v L) :
    Calls Tryz.prog 64 #[v, .string tx] w fun e w' => e = .returned (.bool (hasSl L tx)) ∧ w' = w := by
  have HV := hide hv
  have hm := hv.max
  unfold maxLen at hm
  obtain ⟨a, cap, rfl⟩ := hv.form
  clear hv
  have HE : Hid (hasSl L tx = L.any (fun x => decide (0 < x.ba) && (x.tx.toList == tx.toList))) := rfl
  go_enter Tryz.func64, Tryz.ntmps64
  go_wp2
  go_loop [5] (fun i => ∃ k : Nat, i = .int .i64 k ∧ k ≤ L.length ∧ ∀ j (hj : j < L.length), j < k → (decide (0 < L[j].ba) && (L[j].tx.toList == tx.toList)) = false) (fun i => L.length - (intOf i).toNat)
  case atStart => exact ⟨0, rfl, by omega, fun j _ h => by omega⟩
  case round =>
    obtain ⟨k, rfl, hk, hall⟩ := hrel
    have HAL := hide hall
    clear hall
    by_cases hlt : k < L.length
    · obtain ⟨b, off, rfl, hbw, -, hc⟩ := HV.out.full' (by omega)
      obtain ⟨hsz, hcc⟩ := hc k hlt
      obtain ⟨x, hx⟩ : ∃ x, x = L[k] := ⟨_, rfl⟩
      rw [← hx] at hsz hcc
      have HX := hide hx
      obtain ⟨e0, e1⟩ := hcc
      have i0 : (0 : Int) ≤ (k : Int) := by omega
      have i1 : (k : Int) < (L.length : Int) := by omega
      clear hc hsz hx
      have step : (decide (0 < x.ba) && (x.tx.toList == tx.toList)) = false → ∀ j (hj : j < L.length), j < k + 1 → (decide (0 < L[j].ba) && (L[j].tx.toList == tx.toList)) = false := by
        intro hp j hj hjk
        by_cases e : j = k
        · subst e; rw [← HX.out, hp]
        · exact HAL.out j hj (by omega)
      have HST := hide step
      clear step
      cases q1 : decide (0 < x.ba) with
      | false =>
        have HQ : Hid ((decide (0 < x.ba) && (x.tx.toList == tx.toList)) = false) := by unfold Hid; rw [q1]; rfl
        go_wp2
        go_round
        case rel => exact ⟨k + 1, by go_num, by omega, HST.out HQ.out⟩
        case measure => simp [intOf]; omega
      | true =>
        cases q2 : (x.tx.toList == tx.toList) with
        | false =>
          have HQ : Hid ((decide (0 < x.ba) && (x.tx.toList == tx.toList)) = false) := by unfold Hid; rw [q1, q2]; rfl
          go_wp2
          go_round
          case rel => exact ⟨k + 1, by go_num, by omega, HST.out HQ.out⟩
          case measure => simp [intOf]; omega
        | true =>
          have HT : Hid (hasSl L tx = true) := by unfold Hid; rw [HE.out]; exact any_yes hlt (by rw [← HX.out, q1, q2]; rfl)
          go_wp2
          go_ret
          exact ⟨ret_bool HT.out.symm, rfl⟩
    · have HT : Hid (hasSl L tx = false) := by unfold Hid; rw [HE.out]; exact any_no (fun i hi => HAL.out i hi (by omega))
      go_wp2
      go_ret
      exact ⟨ret_bool HT.out.symm, rfl⟩
end Go.Proofs.YtfbfgljkiikabaaGreat
namespace Go.Proofs.YtfbfgljkiikabaaGreat
open Go.RowKit Go.Deep

/-- a recorder that can be changed: each list in a row that grows or is nil, in a part of memory of its own -/
structure Cpn (w : World) (lo : Nat) (c : Nat → Nat × Nat) (v0 v1 v2 v3 v4 v5 v6 : Value) (U : Rr) : Prop where
  seg : ∀ i, i < 7 → lo ≤ (c i).1 ∧ (c i).2 ≤ w.heap.size
  ap : ∀ i j, i < 7 → j < 7 → i ≠ j → (c i).2 ≤ (c j).1 ∨ (c j).2 ≤ (c i).1
  o0 : NRow rsL 2 w (c 0).1 (c 0).2 v0 U.sf.sl
  o1 : NRow rsL 2 w (c 1).1 (c 1).2 v1 U.dk.sl
  o2 : ∃ L, NGRow PM mxL 8 w (c 2).1 (c 2).2 v2 L ∧ L.map (·.1) = U.he
  o3 : NRow tyL 1 w (c 3).1 (c 3).2 v3 U.wi
  o4 : NRow inL 1 w (c 4).1 (c 4).2 v4 U.ye
  o5 : NRow rsL 2 w (c 5).1 (c 5).2 v5 U.be
  o6 : ∃ L, NGRow PA axL 2 w (c 6).1 (c 6).2 v6 L ∧ L.map (·.1) = U.ac
theorem Cpn.below {w w' : World} {lo : Nat} {c : Nat → Nat × Nat} {v0 v1 v2 v3 v4 v5 v6 : Value} {U : Rr} (h : Cpn w lo c v0 v1 v2 v3 v4 v5 v6 U) (hb : Below w.heap.size w w') : Cpn w' lo c v0 v1 v2 v3 v4 v5 v6 U := by
  obtain ⟨L2, h2, e2⟩ := h.o2
  obtain ⟨L6, h6, e6⟩ := h.o6
  exact ⟨fun i hi => ⟨(h.seg i hi).1, Nat.le_trans (h.seg i hi).2 hb.size⟩, h.ap, h.o0.below hb, h.o1.below hb, ⟨L2, h2.below cloM hb, e2⟩, h.o3.below hb, h.o4.below hb, h.o5.below hb, ⟨L6, h6.below cloA hb, e6⟩⟩
/-- what is touched lies apart from all parts -/
theorem Cpn.touch {w w' : World} {lo lo' hi' : Nat} {c : Nat → Nat × Nat} {v0 v1 v2 v3 v4 v5 v6 : Value} {U : Rr} (h : Cpn w lo c v0 v1 v2 v3 v4 v5 v6 U) (ht : Touch lo' hi' w w') (ho : ∀ i, i < 7 → (c i).2 ≤ lo' ∨ hi' ≤ (c i).1) : Cpn w' lo c v0 v1 v2 v3 v4 v5 v6 U := by
  obtain ⟨L2, h2, e2⟩ := h.o2
  obtain ⟨L6, h6, e6⟩ := h.o6
  exact ⟨fun i hi => ⟨(h.seg i hi).1, Nat.le_trans (h.seg i hi).2 ht.size⟩, h.ap, h.o0.touch ht (ho 0 (by decide)), h.o1.touch ht (ho 1 (by decide)), ⟨L2, h2.touch cloM ht (ho 2 (by decide)), e2⟩, h.o3.touch ht (ho 3 (by decide)), h.o4.touch ht (ho 4 (by decide)), h.o5.touch ht (ho 5 (by decide)), ⟨L6, h6.touch cloA ht (ho 6 (by decide)), e6⟩⟩
theorem Cpn.low {w : World} {lo lo' : Nat} {c : Nat → Nat × Nat} {v0 v1 v2 v3 v4 v5 v6 : Value} {U : Rr} (h : Cpn w lo c v0 v1 v2 v3 v4 v5 v6 U) (hl : lo' ≤ lo) : Cpn w lo' c v0 v1 v2 v3 v4 v5 v6 U :=
  ⟨fun i hi => ⟨Nat.le_trans hl (h.seg i hi).1, (h.seg i hi).2⟩, h.ap, h.o0, h.o1, h.o2, h.o3, h.o4, h.o5, h.o6⟩
theorem Cpn.own {w : World} {lo : Nat} {c : Nat → Nat × Nat} {v0 v1 v2 v3 v4 v5 v6 : Value} {U : Rr} (h : Cpn w lo c v0 v1 v2 v3 v4 v5 v6 U) (hz : RrZ U) : RrO lo w.heap.size w c v0 v1 v2 v3 v4 v5 v6 U := by
  obtain ⟨L2, h2, e2⟩ := h.o2
  obtain ⟨L6, h6, e6⟩ := h.o6
  exact ⟨h.seg, h.ap, h.o0.rss hz.z0, h.o1.rss hz.z1, h2.rms e2 hz.z2, h.o3.rts hz.z3, h.o4.ris, h.o5.rss hz.z5, h6.ras e6⟩
end Go.Proofs.YtfbfgljkiikabaaGreat
