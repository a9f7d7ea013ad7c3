import Derived.Test.YtpdlcccnlciecaaGreatV16
import Derived.Test.YtpdlcccnlciecaaGreatV17
namespace Go.Proofs.YtpdlcccnlciecaaGreat
open Go.RowKit Go.Deep

/-! places of copies, as a list of numbers of one's own -/
def atP (p : Cp → Bool) (L : List Cp) (i : Nat) : Bool := match L[i]? with
  | some c => p c
  | none => false
/-- the places, below k, of those that are so -/
def plc (p : Cp → Bool) (L : List Cp) (k : Nat) : List Nat := (List.range k).filter (atP p L)
theorem atP_at {p : Cp → Bool} {L : List Cp} {i : Nat} (h : i < L.length) : atP p L i = p L[i] := by unfold atP; rw [List.getElem?_eq_getElem h]
theorem plc_step {p : Cp → Bool} {L : List Cp} {k : Nat} (h : k < L.length) : plc p L (k + 1) = plc p L k ++ (if p L[k] then [k] else []) := by
  unfold plc
  rw [List.range_succ, List.filter_append, List.filter_cons, atP_at h]
  rfl
theorem plc_lt {p : Cp → Bool} {L : List Cp} {k i : Nat} (h : i ∈ plc p L k) : i < k := by
  unfold plc at h
  exact List.mem_range.1 (List.mem_filter.1 h).1
/-- the copies at some places -/
def getP (L : List Cp) (P : List Nat) : List Cp := P.filterMap fun i => L[i]?
theorem getP_app (L : List Cp) (P Q : List Nat) : getP L (P ++ Q) = getP L P ++ getP L Q := by unfold getP; rw [List.filterMap_append]
theorem getP_plc (p : Cp → Bool) (L : List Cp) : ∀ k, k ≤ L.length → getP L (plc p L k) = (L.take k).filter p
  | 0, _ => rfl
  | k + 1, h => by
    have hk : k < L.length := h
    rw [plc_step hk, getP_app, getP_plc p L k (by omega), List.take_succ_eq_append_getElem hk, List.filter_append]
    congr 1
    cases hq : p L[k] with
    | true => simp [getP, hq, List.getElem?_eq_getElem hk]
    | false => simp [getP, hq]
def intV (P : List Nat) : List Value := P.map fun (i : Nat) => Value.int .i64 (i : Int)
theorem intV_len (P : List Nat) : (intV P).length = P.length * 1 := by unfold intV; simp
theorem intV_one (P : List Nat) : ∀ u ∈ intV P, u.oneCell' = true := fun u hu => by
  unfold intV at hu
  obtain ⟨i, -, rfl⟩ := List.mem_map.1 hu
  rfl
theorem intV_app (P Q : List Nat) : intV (P ++ Q) = intV P ++ intV Q := by unfold intV; rw [List.map_append]
/-- a list of numbers of one's own -/
def IRow (w : World) (base : Nat) (v : Value) (P : List Nat) : Prop := w.ownsRow base 3 1 v P.length (intV P)
theorem IRow.below {w w' : World} {base : Nat} {v : Value} {P : List Nat} (h : IRow w base v P) (hb : Below w.heap.size w w') : IRow w' base v P := ownsB_on h hb
theorem owns_low2 {base base' : Nat} {w : World} {v : Value} {P : List Nat} (h : IRow w base v P) (hb : base' ≤ base) : IRow w base' v P := by
  obtain ⟨h1, h2 | ⟨g, cap, cur, h3, h4, h5⟩⟩ := h
  · exact ⟨h1, Or.inl h2⟩
  · exact ⟨h1, Or.inr ⟨g, cap, cur, h3, Nat.le_trans hb h4, h5⟩⟩
theorem IRow.form {w : World} {base : Nat} {v : Value} {P : List Nat} (h : IRow w base v P) : ∃ a k, v = .slice a P.length k := by
  rcases h.2 with ⟨rfl, h0⟩ | ⟨g, cap, cur, rfl, -⟩
  · exact ⟨none, 0, by rw [h0]⟩
  · exact ⟨_, _, rfl⟩
theorem IRow.at {w : World} {base : Nat} {v : Value} {P : List Nat} (h : IRow w base v P) {i : Nat} (hi : i < P.length) : ∃ g cap, v = .slice (some ⟨g, 0, none⟩) P.length cap ∧ g < w.heap.size ∧ base ≤ g ∧ w.cell? ⟨g, i, none⟩ = some (.int .i64 (P[i] : Int)) := by
  rcases h.2 with ⟨rfl, h0⟩ | ⟨g, cap, cur, rfl, hbg, hh, hnc, hcm, hcs, htk⟩
  · omega
  · refine ⟨g, cap, rfl, (Array.getElem?_eq_some_iff.1 hh).1, hbg, ?_⟩
    have h1 : (intV P)[i]? = some (.int .i64 (P[i] : Int)) := by unfold intV; simp [hi]
    rw [← htk, List.getElem?_take] at h1
    split at h1
    · simp only [World.cell?, hh]
      rw [← Array.getElem?_toList]
      exact h1
    · cases h1
theorem Tryz.infoI : (Tryz.prog.info? 3).map (fun i => (i.zero, i.size, i.bytes)) = some (some (.int .i64 0), 1, 8) := by kernel_rfl
end Go.Proofs.YtpdlcccnlciecaaGreat
namespace Go.Proofs.YtpdlcccnlciecaaGreat
open Go.RowKit Go.Deep

set_option maxRecDepth 100000 in
set_option maxHeartbeats 8000000 in
theorem l16Live_any (lo : Nat) (sv cv bv : Value) (B : Sb) (s : ByteArray) (w : World) (h : SbAt lo w sv cv bv B) (hl : B.cs.length ≤ 1000000) :
    Calls Tryz.prog 44 #[.agg #[.int .i64 B.now, sv, cv, bv], .string s] w fun e w' => ∃ v, e = .returned v ∧ Below w.heap.size w w' ∧ IRow w' w.heap.size v (plc (liveB s) B.cs B.cs.length) := by
  have HK := hide h
  obtain ⟨i1, hi1, hz1, hy1, hx1⟩ := info_parts Tryz.infoI
  have HI1 := hide (And.intro hi1 (And.intro hz1 (And.intro hy1 hx1)))
  obtain ⟨a0, k0, rfl⟩ := h.svs.form
  obtain ⟨a1, k1, rfl⟩ := h.cps.form
  obtain ⟨a2, k2, rfl⟩ := h.bes.form
  clear h hi1 hz1 hy1 hx1
  go_enter Tryz.func44, Tryz.ntmps44
  go_wp2_with fail
  generalize hWa : World.alloc (w.alloc _) _ = Wa
  have HB : Hid (Below w.heap.size w Wa) := by unfold Hid; rw [← hWa]; exact (one_al w _).alloc (by simp) _
  have F1 : Hid (Box Wa w.heap.size #[.int .i64 B.now, .slice a0 B.ss.length k0, .slice a1 B.cs.length k1, .slice a2 B.bs.length k2]) := by unfold Hid; rw [← hWa]; exact (Box.new _ _ _ _ rfl).on (one_al _ _)
  have OW : Hid (IRow Wa (w.heap.size + 1) (.slice (some ⟨w.heap.size + 1, 0, none⟩) 0 0) []) := by unfold Hid IRow; rw [← hWa]; exact ownsB_made _ _ _ _ (by simp) (Nat.le_refl _)
  have hsz : w.heap.size + 1 ≤ Wa.heap.size := by rw [← hWa]; simp
  clear hWa
  go_loopw [5, 6] (fun m i wr => ∃ j : Nat, i = .int .i64 j ∧ j ≤ B.cs.length ∧ Below w.heap.size w wr ∧ w.heap.size + 1 ≤ wr.heap.size ∧ Box wr w.heap.size #[.int .i64 B.now, .slice a0 B.ss.length k0, .slice a1 B.cs.length k1, .slice a2 B.bs.length k2] ∧ IRow wr (w.heap.size + 1) m (plc (liveB s) B.cs j)) (fun _ i _ => B.cs.length - (intOf i).toNat)
  case atStart => exact ⟨0, rfl, by omega, HB.out, hsz, F1.out, OW.out⟩
  case round =>
    obtain ⟨j, rfl, hj, hb, hs2, hf, ho⟩ := hrel
    replace HB := hide hb
    replace F1 := hide hf
    replace OW := hide ho
    clear hb hf ho hsz
    have p2 := F1.out.cell 2
    simp at p2
    by_cases hlt : j < B.cs.length
    · obtain ⟨cb, co, rfl, hcb, -, hcc⟩ := HK.out.cps.full' (by omega)
      have hc := (hcc j hlt).2.below HB.out hcb
      have c0 := hc.c0
      have c5 := hc.c5
      have HST := hide (plc_step (p := liveB s) hlt)
      have i0 : (0 : Int) ≤ (j : Int) := by omega
      have i1' : (j : Int) < (B.cs.length : Int) := by omega
      have hpl : (plc (liveB s) B.cs j).length ≤ j := by unfold plc; exact Nat.le_trans (List.length_filter_le _ _) (by simp)
      clear hcc hc
      obtain ⟨c, hcj⟩ : ∃ c, c = B.cs[j] := ⟨_, rfl⟩
      rw [← hcj] at c0 c5 HST
      clear hcj
      cases he : (c.se.toList == s.toList) with
      | false =>
        have HN : Hid (plc (liveB s) B.cs (j + 1) = plc (liveB s) B.cs j) := by unfold Hid; rw [HST.out]; unfold liveB mineB; rw [he]; simp
        go_wp2
        go_roundw
        case rel => exact ⟨j + 1, by go_num, by omega, HB.out, hs2, F1.out, by rw [HN.out]; exact OW.out⟩
        case measure => simp [intOf]; omega
      | true =>
        cases hn : c.en with
        | true =>
          have HN : Hid (plc (liveB s) B.cs (j + 1) = plc (liveB s) B.cs j) := by unfold Hid; rw [HST.out]; unfold liveB mineB; rw [he, hn]; simp
          rw [hn] at c5
          go_wp2
          go_roundw
          case rel => exact ⟨j + 1, by go_num, by omega, HB.out, hs2, F1.out, by rw [HN.out]; exact OW.out⟩
          case measure => simp [intOf]; omega
        | false =>
          have HN : Hid (plc (liveB s) B.cs (j + 1) = plc (liveB s) B.cs j ++ [j]) := by unfold Hid; rw [HST.out]; unfold liveB mineB; rw [he, hn]; simp
          rw [hn] at c5
          go_wp2_with (at_builtin; refine wpList_append_own_at _ rfl (.tmp 32) (.tmp 34) 85 rfl (w.heap.size + 1) 3 i1 (.int .i64 0) 1 8 Tryz.underlying85 HI1.out.1 HI1.out.2.1 HI1.out.2.2.1 HI1.out.2.2.2 rfl (by decide) _ _ (intV (plc (liveB s) B.cs j)) rfl (ownsB_on OW.out (one_al _ _)) ⟨wr.heap.size, 0, none⟩ 1 1 [.int .i64 (j : Int)] rfl rfl (cells_at (Box.new _ _ _ _ rfl) rfl _ rfl) (by intro u hu; simp at hu; subst hu; rfl) (by unfold maxLen; omega) (by omega) (by simp; omega) ?_; intro v' w4 hown4 hgrow4 hnil4 hat4)
          have hb4 : Below (w.heap.size + 1) wr w4 := ((one_al wr _).mono (by omega)).trans (ownsB_grown (ownsB_on OW.out (one_al _ _)) hgrow4 (by simp; omega))
          have HO4 : Hid (IRow w4 (w.heap.size + 1) v' (plc (liveB s) B.cs (j + 1))) := by
            unfold Hid IRow
            rw [HN.out, intV_app, List.length_append]
            exact hown4
          go_roundw
          case rel => exact ⟨j + 1, by go_num, by omega, HB.out.trans (hb4.mono (by omega)), Nat.le_trans hs2 hb4.size, F1.out.below hb4 (by omega), HO4.out⟩
          case measure => simp [intOf]; omega
    · have hje : j = B.cs.length := by omega
      subst hje
      go_wp2
      go_ret
      exact ⟨_, rfl, HB.out, owns_low2 OW.out (by omega)⟩
end Go.Proofs.YtpdlcccnlciecaaGreat
