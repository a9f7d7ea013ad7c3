import Derived.Test.YtoklnkojacdciaaG41
namespace Go.Proofs.Ytoklnkojacdciaa
open Go.RowKit Go.Deep

/-- ints of one's own -/
def RisOwn (lo hi : Nat) (w : World) (v : Value) (L : List Int) : Prop :=
  (∃ (a : Option Addr) (cap : Nat), v = .slice a 0 cap ∧ L = []) ∨
  ∃ (b off cap : Nat), v = .slice (some ⟨b, off, none⟩) L.length cap ∧ L ≠ [] ∧ L.length ≤ maxLen ∧ L.length ≤ cap ∧ b < w.heap.size ∧
    (∀ i (h : i < L.length), w.cell? ⟨b, off + i, none⟩ = some (.int .i64 L[i])) ∧ lo ≤ b ∧ b < hi ∧ ∀ i, w.frozen? ⟨b, off + i, none⟩ = false
theorem RisOwn.near {lo hi lo' hi' b o n : Nat} {w w' : World} {v : Value} {L : List Int} (h : RisOwn lo hi w v L) (ht : Near b o n lo' hi' w w') (ho : hi ≤ lo' ∨ hi' ≤ lo) (hb : b < lo ∨ hi ≤ b) : RisOwn lo hi w' v L := by
  rcases h with h | ⟨g, off, cap, h1, h2, h3, hcp, h4, h5, h7, h8, h9⟩
  · exact Or.inl h
  · exact Or.inr ⟨g, off, cap, h1, h2, h3, hcp, Nat.lt_of_lt_of_le h4 ht.size, fun i hi' => ((ht.out (p := ⟨g, off + i, none⟩) h4 (by simp only [ne_eq]; omega) (by simp only []; omega)).1).trans (h5 i hi'), h7, h8, fun i => ((ht.out (p := ⟨g, off + i, none⟩) h4 (by simp only [ne_eq]; omega) (by simp only []; omega)).2).trans (h9 i)⟩
theorem RisOwn.below {lo hi : Nat} {w w' : World} {v : Value} {L : List Int} (h : RisOwn lo hi w v L) (hb : Below w.heap.size w w') : RisOwn lo hi w' v L := by
  rcases h with h | ⟨g, off, cap, h1, h2, h3, hcp, h4, h5, h7, h8, h9⟩
  · exact Or.inl h
  · exact Or.inr ⟨g, off, cap, h1, h2, h3, hcp, Nat.lt_of_lt_of_le h4 hb.size, fun i hi' => (hb.cell (p := ⟨g, off + i, none⟩) h4).trans (h5 i hi'), h7, h8, fun i => (hb.frozen (p := ⟨g, off + i, none⟩) h4).trans (h9 i)⟩
theorem RisOwn.touch {lo hi lo' hi' : Nat} {w w' : World} {v : Value} {L : List Int} (h : RisOwn lo hi w v L) (ht : Touch lo' hi' w w') (ho : hi ≤ lo' ∨ hi' ≤ lo) : RisOwn lo hi w' v L := by
  rcases h with h | ⟨b, off, cap, h1, h2, h3, hcp, h4, h5, h7, h8, h9⟩
  · exact Or.inl h
  · exact Or.inr ⟨b, off, cap, h1, h2, h3, hcp, Nat.lt_of_lt_of_le h4 ht.size, fun i hi' => (ht.cell (p := ⟨b, off + i, none⟩) h4 (by simp only []; omega)).trans (h5 i hi'), h7, h8, fun i => (ht.frozen (p := ⟨b, off + i, none⟩) h4 (by simp only []; omega)).trans (h9 i)⟩
theorem RisOwn.at {lo hi : Nat} {w : World} {v : Value} {L : List Int} (h : RisOwn lo hi w v L) : RisAt lo w v L := by
  rcases h with h | ⟨g, off, cap, h1, h2, h3, hcp, h4, h5, h7, h8, h9⟩
  · exact Or.inl h
  · exact Or.inr ⟨g, off, cap, h1, h2, h3, h4, h7, hcp, fun i hi => ⟨rfl, h5 i hi⟩⟩
theorem RisOwn.wide {lo hi lo' hi' : Nat} {w : World} {v : Value} {L : List Int} (h : RisOwn lo hi w v L) (h1 : lo' ≤ lo) (h2 : hi ≤ hi') : RisOwn lo' hi' w v L := by
  rcases h with h | ⟨g, off, cap, e1, e2, e3, hcp, e4, e5, e7, e8, e9⟩
  · exact Or.inl h
  · exact Or.inr ⟨g, off, cap, e1, e2, e3, hcp, e4, e5, by omega, by omega, e9⟩
theorem RisOwn.form {lo hi : Nat} {w : World} {v : Value} {L : List Int} (h : RisOwn lo hi w v L) : ∃ a cap, v = .slice a L.length cap := by
  rcases h with ⟨a, cap, h, rfl⟩ | ⟨b, off, cap, h, _⟩
  · exact ⟨a, cap, h⟩
  · exact ⟨_, cap, h⟩
def imarks (k : Int) (n : Nat) : List Int := (List.range n).map fun (i : Nat) => k + (i : Int)
theorem imarks_len (k : Int) (n : Nat) : (imarks k n).length = n := by simp [imarks]
theorem imarks_get (k : Int) (n i : Nat) (h : i < (imarks k n).length) : (imarks k n)[i] = k + i := by simp [imarks]

set_option maxHeartbeats 1000000 in
theorem markRis_any (lo hi : Nat) (v : Value) (L : List Int) (k : Int) (w : World) (hv : RisOwn lo hi w v L) (h0 : 0 ≤ k) (hk : k + L.length ≤ 4000000000000000000) :
    Calls Try.prog 57 #[v, .int .i64 k] w fun e w' => e = .returned (.int .i64 (k + L.length)) ∧ Touch lo hi w w' ∧ RisOwn lo hi w' v (imarks k L.length) := by
  rcases hv with ⟨a, cap, rfl, rfl⟩ | ⟨b, off, cap, rfl, hne, hm, hcp, hbw, hc, hlo, hhi, hfr⟩
  · go_enter Try.func57, Try.ntmps57
    go_wp2
    go_loop [5, 1] (fun i q => i = .int .i64 0 ∧ q = .int .i64 k) (fun _ _ => 0)
    case atStart => exact ⟨rfl, rfl⟩
    case round =>
      obtain ⟨rfl, rfl⟩ := hrel
      go_wp2
      go_ret
      exact ⟨by simp, Touch.refl _ _ _, Or.inl ⟨_, _, rfl, rfl⟩⟩
  · unfold maxLen at hm
    go_enter Try.func57, Try.ntmps57
    go_wp2
    go_loopw [5, 1] (fun i q wr => ∃ j : Nat, i = .int .i64 j ∧ q = .int .i64 (k + j) ∧ j ≤ L.length ∧ Touch lo hi w wr ∧ (∀ i, i < j → wr.cell? ⟨b, off + i, none⟩ = some (.int .i64 (k + i))) ∧ (∀ i (h : i < L.length), j ≤ i → wr.cell? ⟨b, off + i, none⟩ = some (.int .i64 L[i])) ∧ ∀ i, wr.frozen? ⟨b, off + i, none⟩ = false) (fun i _ _ => L.length - (intOf i).toNat)
    case atStart => exact ⟨0, rfl, by simp, by omega, Touch.refl _ _ _, fun i h => by omega, fun i h _ => hc i h, hfr⟩
    case round =>
      obtain ⟨j, rfl, rfl, hj, ht, hA, hB, hF⟩ := hrel
      have HT := hide ht
      have HA := hide hA
      have HBB := hide hB
      have HF := hide hF
      clear ht hA hB hF
      by_cases hlt : j < L.length
      · have hcj : wr.cell? ⟨b, off + j, none⟩ = some (.int .i64 L[j]) := HBB.out j hlt (Nat.le_refl _)
        have hfj : wr.frozen? ⟨b, off + j, none⟩ = false := HF.out j
        go_wp2
        go_roundw
        case rel =>
          refine ⟨j + 1, by go_num, by go_num, by omega, HT.out.trans (Touch.setCell _ _ _ _ _ ⟨hlo, hhi⟩), fun i hi' => ?_, fun i h hi' => ?_, fun i => ?_⟩
          · by_cases e : i = j
            · subst e; exact World.cell?_setCell_same' _ _ _ (by rw [hcj]; rfl)
            · rw [show (wr.setCell ⟨b, off + j, none⟩ (.int .i64 (k + j))).cell? ⟨b, off + i, none⟩ = wr.cell? ⟨b, off + i, none⟩ from by apply World.cell?_setCell_other; simp only [ne_eq, Addr.mk.injEq, not_and]; omega]
              exact HA.out i (by omega)
          · rw [show (wr.setCell ⟨b, off + j, none⟩ (.int .i64 (k + j))).cell? ⟨b, off + i, none⟩ = wr.cell? ⟨b, off + i, none⟩ from by apply World.cell?_setCell_other; simp only [ne_eq, Addr.mk.injEq, not_and]; omega]
            exact HBB.out i h (by omega)
          · rw [World.frozen?_setCell]
            exact HF.out i
        case measure => simp [intOf]; omega
      · have e : j = L.length := by omega
        subst e
        go_wp2
        go_ret
        refine ⟨rfl, HT.out, Or.inr ⟨b, off, cap, by rw [imarks_len], ?_, by rw [imarks_len]; unfold maxLen; omega, by rw [imarks_len]; exact hcp, Nat.lt_of_lt_of_le hbw HT.out.size, fun i h => ?_, hlo, hhi, HF.out⟩⟩
        · intro e; have := congrArg List.length e; rw [imarks_len] at this; simp at this; exact hne this
        · rw [imarks_get]; exact HA.out i (by rw [imarks_len] at h; exact h)

set_option maxHeartbeats 1000000 in
theorem heldRis_any (lo : Nat) (v : Value) (n : Nat) (k : Int) (w : World) (hv : RisAt lo w v (imarks k n)) (h0 : 0 ≤ k) (hk : k + n ≤ 4000000000000000000) :
    Calls Try.prog 62 #[v, .int .i64 k] w fun e w' => e = .returned (.int .i64 (k + n)) ∧ Below w.heap.size w w' := by
  have HV := hide hv
  obtain ⟨a, cap, rfl⟩ := hv.form
  clear hv
  rw [imarks_len] at HV
  rw [imarks_len]
  go_enter Try.func62, Try.ntmps62
  go_wp2
  go_loop [5, 1] (fun i q => ∃ j : Nat, i = .int .i64 j ∧ q = .int .i64 (k + j) ∧ j ≤ n) (fun i _ => n - (intOf i).toNat)
  case atStart => exact ⟨0, rfl, by simp, by omega⟩
  case round =>
    obtain ⟨j, rfl, rfl, hj⟩ := hrel
    by_cases hlt : j < n
    · obtain ⟨b, off, rfl, hbw, -, hc⟩ := HV.out.full' (by rw [imarks_len]; omega)
      have hcj : w.cell? ⟨b, off + j, none⟩ = some (.int .i64 (k + j)) := by rw [(hc j (by rw [imarks_len]; omega)).2, imarks_get]
      clear hc
      go_wp2
      go_round
      case rel => exact ⟨j + 1, by go_num, by go_num, by omega⟩
      case measure => simp [intOf]; omega
    · have e : j = n := by omega
      subst e
      go_wp2
      go_ret
      exact ⟨rfl, Below.refl _ _⟩
end Go.Proofs.Ytoklnkojacdciaa
namespace Go.Proofs.Ytoklnkojacdciaa
open Go.ChangeShapes Go.WideShapes Go.ChangeAt Go.RowKit Go.Deep
theorem Try.cells97 : Try.prog.cellsOf 97 = 18 := by kernel_rfl
theorem lstRr {l : List Value} (h : l.length = 18) : ∃ c0 c1 c2 c3 c4 c5 c6 c7 c8 c9 c10 c11 c12 c13 c14 c15 c16 c17, l = [c0, c1, c2, c3, c4, c5, c6, c7, c8, c9, c10, c11, c12, c13, c14, c15, c16, c17] := by
  match l, h with
  | [c0, c1, c2, c3, c4, c5, c6, c7, c8, c9, c10, c11, c12, c13, c14, c15, c16, c17], _ => exact ⟨c0, c1, c2, c3, c4, c5, c6, c7, c8, c9, c10, c11, c12, c13, c14, c15, c16, c17, rfl⟩
section
variable {H : Type} {enc : TypeId × Value → H} {W : World}
set_option maxRecDepth 100000 in
theorem open_Rr0 {fuel : Nat} {cs : List Value} {x : DataW H × List MemPlace} (h : DataW.trod enc Try.prog W 0 (fun _ => true) true fuel 97 cs = some x) : ∃ U, RrC 0 W cs U := by
  obtain ⟨xs, n, _, _, hl, hlen, hfld⟩ := DataW.trod_struct Try.underlying97 h
  obtain ⟨c0, c1, c2, c3, c4, c5, c6, c7, c8, c9, c10, c11, c12, c13, c14, c15, c16, c17, rfl⟩ := lstRr (hl.trans Try.cells97)
  simp only [Array.size, List.length_cons, List.length_nil] at hlen
  have g0 : DataW.trod enc Try.prog W 0 (fun _ => true) true n 3 ((([c0, c1, c2, c3, c4, c5, c6, c7, c8, c9, c10, c11, c12, c13, c14, c15, c16, c17] : List Value).drop 0).take (Try.prog.cellsOf 3)) = xs[0]? := hfld 0 _ rfl
  have g1 : DataW.trod enc Try.prog W 0 (fun _ => true) true n 3 ((([c0, c1, c2, c3, c4, c5, c6, c7, c8, c9, c10, c11, c12, c13, c14, c15, c16, c17] : List Value).drop 1).take (Try.prog.cellsOf 3)) = xs[1]? := hfld 1 _ rfl
  have g2 : DataW.trod enc Try.prog W 0 (fun _ => true) true n 4 ((([c0, c1, c2, c3, c4, c5, c6, c7, c8, c9, c10, c11, c12, c13, c14, c15, c16, c17] : List Value).drop 2).take (Try.prog.cellsOf 4)) = xs[2]? := hfld 2 _ rfl
  have g3 : DataW.trod enc Try.prog W 0 (fun _ => true) true n 94 ((([c0, c1, c2, c3, c4, c5, c6, c7, c8, c9, c10, c11, c12, c13, c14, c15, c16, c17] : List Value).drop 3).take (Try.prog.cellsOf 94)) = xs[3]? := hfld 3 _ rfl
  have g4 : DataW.trod enc Try.prog W 0 (fun _ => true) true n 94 ((([c0, c1, c2, c3, c4, c5, c6, c7, c8, c9, c10, c11, c12, c13, c14, c15, c16, c17] : List Value).drop 6).take (Try.prog.cellsOf 94)) = xs[4]? := hfld 4 _ rfl
  have g5 : DataW.trod enc Try.prog W 0 (fun _ => true) true n 32 ((([c0, c1, c2, c3, c4, c5, c6, c7, c8, c9, c10, c11, c12, c13, c14, c15, c16, c17] : List Value).drop 9).take (Try.prog.cellsOf 32)) = xs[5]? := hfld 5 _ rfl
  have g6 : DataW.trod enc Try.prog W 0 (fun _ => true) true n 47 ((([c0, c1, c2, c3, c4, c5, c6, c7, c8, c9, c10, c11, c12, c13, c14, c15, c16, c17] : List Value).drop 10).take (Try.prog.cellsOf 47)) = xs[6]? := hfld 6 _ rfl
  have g7 : DataW.trod enc Try.prog W 0 (fun _ => true) true n 4 ((([c0, c1, c2, c3, c4, c5, c6, c7, c8, c9, c10, c11, c12, c13, c14, c15, c16, c17] : List Value).drop 11).take (Try.prog.cellsOf 4)) = xs[7]? := hfld 7 _ rfl
  have g8 : DataW.trod enc Try.prog W 0 (fun _ => true) true n 4 ((([c0, c1, c2, c3, c4, c5, c6, c7, c8, c9, c10, c11, c12, c13, c14, c15, c16, c17] : List Value).drop 12).take (Try.prog.cellsOf 4)) = xs[8]? := hfld 8 _ rfl
  have g9 : DataW.trod enc Try.prog W 0 (fun _ => true) true n 3 ((([c0, c1, c2, c3, c4, c5, c6, c7, c8, c9, c10, c11, c12, c13, c14, c15, c16, c17] : List Value).drop 13).take (Try.prog.cellsOf 3)) = xs[9]? := hfld 9 _ rfl
  have g10 : DataW.trod enc Try.prog W 0 (fun _ => true) true n 48 ((([c0, c1, c2, c3, c4, c5, c6, c7, c8, c9, c10, c11, c12, c13, c14, c15, c16, c17] : List Value).drop 14).take (Try.prog.cellsOf 48)) = xs[10]? := hfld 10 _ rfl
  have g11 : DataW.trod enc Try.prog W 0 (fun _ => true) true n 92 ((([c0, c1, c2, c3, c4, c5, c6, c7, c8, c9, c10, c11, c12, c13, c14, c15, c16, c17] : List Value).drop 15).take (Try.prog.cellsOf 92)) = xs[11]? := hfld 11 _ rfl
  have g12 : DataW.trod enc Try.prog W 0 (fun _ => true) true n 95 ((([c0, c1, c2, c3, c4, c5, c6, c7, c8, c9, c10, c11, c12, c13, c14, c15, c16, c17] : List Value).drop 16).take (Try.prog.cellsOf 95)) = xs[12]? := hfld 12 _ rfl
  have g13 : DataW.trod enc Try.prog W 0 (fun _ => true) true n 3 ((([c0, c1, c2, c3, c4, c5, c6, c7, c8, c9, c10, c11, c12, c13, c14, c15, c16, c17] : List Value).drop 17).take (Try.prog.cellsOf 3)) = xs[13]? := hfld 13 _ rfl
  simp only [Try.cells3, Try.cells4, Try.cells48, Try.cells47, Try.cells95, Try.cells32, Try.cells92, Try.cells94, List.drop_succ_cons, List.drop_zero, List.take_succ_cons, List.take_zero] at g0 g1 g2 g3 g4 g5 g6 g7 g8 g9 g10 g11 g12 g13
  rw [List.getElem?_eq_getElem (by omega)] at g0 g1 g2 g3 g4 g5 g6 g7 g8 g9 g10 g11 g12 g13
  obtain ⟨q0, e0, _, _⟩ := DataW.trod_int Try.underlying3 g0
  simp only [List.cons.injEq, and_true] at e0
  subst e0
  obtain ⟨q1, e1, _, _⟩ := DataW.trod_int Try.underlying3 g1
  simp only [List.cons.injEq, and_true] at e1
  subst e1
  obtain ⟨q2, e2, _⟩ := DataW.trod_bool Try.underlying4 g2
  simp only [List.cons.injEq, and_true] at e2
  subst e2
  obtain ⟨q3, a0, k0, e3, h3⟩ := open_Rd0 g3
  unfold rdL at e3
  simp only [List.cons.injEq, and_true] at e3
  obtain ⟨r3_0, r3_1, r3_2⟩ := e3
  subst r3_0 r3_1 r3_2
  obtain ⟨q4, a1, k1, e4, h4⟩ := open_Rd0 g4
  unfold rdL at e4
  simp only [List.cons.injEq, and_true] at e4
  obtain ⟨r4_0, r4_1, r4_2⟩ := e4
  subst r4_0 r4_1 r4_2
  obtain ⟨q5, h5⟩ := open_Rms g5
  obtain ⟨a2, k2, rfl⟩ := h5.form
  obtain ⟨q6, h6⟩ := open_Rts g6
  obtain ⟨a3, k3, rfl⟩ := h6.form
  obtain ⟨q7, e7, _⟩ := DataW.trod_bool Try.underlying4 g7
  simp only [List.cons.injEq, and_true] at e7
  subst e7
  obtain ⟨q8, e8, _⟩ := DataW.trod_bool Try.underlying4 g8
  simp only [List.cons.injEq, and_true] at e8
  subst e8
  obtain ⟨q9, e9, _, _⟩ := DataW.trod_int Try.underlying3 g9
  simp only [List.cons.injEq, and_true] at e9
  subst e9
  obtain ⟨q10, h10⟩ := open_Ris g10
  obtain ⟨a4, k4, rfl⟩ := h10.form
  obtain ⟨q11, h11⟩ := open_Rss g11
  obtain ⟨a5, k5, rfl⟩ := h11.form
  obtain ⟨q12, h12⟩ := open_Ras g12
  obtain ⟨a6, k6, rfl⟩ := h12.form
  obtain ⟨q13, e13, _, _⟩ := DataW.trod_int Try.underlying3 g13
  simp only [List.cons.injEq, and_true] at e13
  subst e13
  exact ⟨⟨q0, q1, q2, q3, q4, q5, q6, q7, q8, q9, q10, q11, q12, q13⟩, a0, k0, a1, k1, a2, k2, a3, k3, a4, k4, a5, k5, a6, k6, rfl, ⟨h3.l0, h4.l0, h5, h6, h10, h11, h12⟩⟩
set_option maxRecDepth 100000 in
theorem open_Rr {r : Reach} {b0 : Nat} {v : Value} {d : DataW H} {p : List MemPlace} (hv : Value.okWide Try.prog W r b0 97 v) (h : DataW.Trod enc Try.prog W 0 (fun _ => true) true 97 v d p) : ∃ (cs : List Value) (U : Rr), v = .agg cs.toArray ∧ RrC 0 W cs U := by
  obtain ⟨cs, rfl, hsz⟩ := okWide_struct Try.underlying97 hv
  obtain ⟨fuel, hf⟩ := h
  obtain ⟨U, hU⟩ := open_Rr0 (cs := cs.toList) hf
  exact ⟨cs.toList, U, rfl, hU⟩
end
end Go.Proofs.Ytoklnkojacdciaa
