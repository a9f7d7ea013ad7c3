import Derived.Test.YtdeammfdkaomlaaGreatV11
import Derived.Test.YtdeammfdkaomlaaGreatV15
namespace Go.Proofs.YtdeammfdkaomlaaGreat
open Go.RowKit Go.Deep

set_option maxRecDepth 20000 in
set_option maxHeartbeats 4000000 in
theorem implTeams_any (lo : Nat) (v : Value) (Ts : List Tm) (w : World) (hv : TmsAt lo w v Ts) :
    Calls Tryz.prog 100 #[v] w fun e w' => e = .returned (.bool (teamsB Ts)) ∧ Below w.heap.size w w' := by
  by_cases h12 : ¬ Ts.length ≤ 12
  · have HR := hide (teams_big h12)
    have hmx := hv.max
    unfold maxLen at hmx
    obtain ⟨a, cap, rfl⟩ := hv.form
    go_enter Tryz.func100, Tryz.ntmps100
    go_wp2
    go_ret
    exact ⟨ret_bool HR.out.symm, Below.refl _ _⟩
  replace h12 : Ts.length ≤ 12 := by omega
  by_cases hL : Ts = []
  · subst hL
    obtain ⟨a, cap, rfl⟩ := hv.form
    clear hv
    go_enter Tryz.func100, Tryz.ntmps100
    go_wp2
    go_loop [10] (fun i => i = .int .i64 0) (fun _ => 0)
    case atStart => rfl
    case round =>
      subst hrel
      go_wp2
      go_ret
      exact ⟨ret_bool (by rfl), Below.refl _ _⟩
  · have HV := hide hv
    obtain ⟨b, off, cap, rfl, hm, hbw, _, hc⟩ := hv.full hL
    clear hv hm
    have H12 := hide h12
    have h12i : decide ((12 : Int) < (Ts.length : Int)) = false := by simp; omega
    go_enter Tryz.func100, Tryz.ntmps100
    go_wp2
    go_loopw [10] (fun i wr => ∃ k : Nat, i = .int .i64 k ∧ k ≤ Ts.length ∧ Below w.heap.size w wr ∧ ∀ i, i < k → teamAt Ts i = true) (fun i _ => Ts.length - (intOf i).toNat)
    case atStart => exact ⟨0, rfl, by omega, Below.refl _ _, fun i h => by omega⟩
    case round =>
      obtain ⟨k, rfl, hk, hb, hall⟩ := hrel
      have HA := hide hall
      have HB := hide hb
      clear hall hb
      by_cases hlt : k < Ts.length
      · obtain ⟨hsz, hcell⟩ := hc k hlt
        have HSZ := hide hsz
        obtain ⟨c0, c1⟩ := hcell.below HB.out hbw
        clear hcell hsz
        cases hn : nameB Ts[k].nm with
        | false =>
          go_wp2
          go_quiet ((go_at_call 101; exact (isName_any _ _ HSZ.out.s0).mono fun _ _ h => ⟨h.1, _, h.2⟩))
          go_wp2
          go_ret
          exact ⟨ret_bool (teams_no hlt (by rw [teamAt_eq hlt]; simp [hn])).symm, below_drewN (HB.out.alloc HB.out.size _) _⟩
        | true =>
          cases k with
          | zero =>
            have c0 : wr.cell? ⟨b, off, none⟩ = some (.string Ts[0].nm) := by simpa using c0
            have c1 : wr.cell? ⟨b, off + 1, none⟩ = some (.string Ts[0].ov) := by simpa using c1
            go_wp2
            go_quiet ((go_at_call 101; exact (isName_any _ _ HSZ.out.s0).mono fun _ _ h => ⟨h.1, _, h.2⟩))
            try simp only [hn]
            generalize hWb : World.drewN _ _ = Wb
            have HBX : Hid (Box Wb wr.heap.size #[.string Ts[0].nm, .string Ts[0].ov]) := by rw [← hWb]; exact (Box.new _ _ _ _ rfl).on (below_drewN (Below.refl _ _) _)
            have HBB : Hid (Below w.heap.size w Wb) := by rw [← hWb]; exact below_drewN (HB.out.alloc HB.out.size _) _
            clear hWb
            have b0 : Wb.cell? ⟨wr.heap.size, 0, none⟩ = some (.string Ts[0].nm) := HBX.out.cell 0
            have b1 : Wb.cell? ⟨wr.heap.size, 1, none⟩ = some (.string Ts[0].ov) := HBX.out.cell 1
            cases hoe : Ts[0].ov.toList.isEmpty with
            | true =>
              go_wp2_with fail
              refine (tooDeep_any lo _ Ts Ts[0].nm _ (HV.out.below HBB.out)).mono ?_
              rintro e w2 ⟨rfl, hb2⟩
              have HB2 : Hid (Below w.heap.size w w2) := HBB.out.trans (hb2.mono HBB.out.size)
              clear hb2 HBB HBX b0 b1
              cases hd : deepN Ts 5 Ts[0].nm with
              | true =>
                have HR : Hid (teamsB Ts = false) := teams_no hlt (by rw [teamAt_eq hlt, hd]; simp)
                go_wp2
                go_ret
                exact ⟨ret_bool HR.out.symm, HB2.out⟩
              | false =>
                have HOK : Hid (∀ i, i < 0 + 1 → teamAt Ts i = true) := fun i hi => by
                  by_cases e : i = 0
                  · subst e; rw [teamAt_eq hlt, hd]; simp [hn, hoe]
                  · exact HA.out i (by omega)
                go_wp2
                go_roundw
                case rel => exact ⟨0 + 1, by go_num, by omega, HB2.out, HOK.out⟩
                case measure => simp [intOf]; omega
            | false =>
              go_wp2_with fail
              refine (teamPlace_any lo _ Ts Ts[0].ov _ (HV.out.below HBB.out)).mono ?_
              rintro e w1 ⟨rfl, hb1⟩
              have HBX := hide (HBX.out.on hb1)
              have HBB : Hid (Below w.heap.size w w1) := HBB.out.trans (hb1.mono HBB.out.size)
              clear hb1 b0 b1
              have b0 : w1.cell? ⟨wr.heap.size, 0, none⟩ = some (.string Ts[0].nm) := HBX.out.cell 0
              have b1 : w1.cell? ⟨wr.heap.size, 1, none⟩ = some (.string Ts[0].ov) := HBX.out.cell 1
              by_cases hp : plT Ts Ts[0].ov < Ts.length
              · have hht : hasT Ts Ts[0].ov = true := by rw [hasT_eq]; exact decide_eq_true hp
                rw [placeT_lt hp]
                clear hp
                generalize plT Ts Ts[0].ov = pp
                go_wp2_with fail
                refine (tooDeep_any lo _ Ts Ts[0].nm _ (HV.out.below HBB.out)).mono ?_
                rintro e w2 ⟨rfl, hb2⟩
                have HB2 : Hid (Below w.heap.size w w2) := HBB.out.trans (hb2.mono HBB.out.size)
                clear hb2 HBB HBX b0 b1
                cases hd : deepN Ts 5 Ts[0].nm with
                | true =>
                  have HR : Hid (teamsB Ts = false) := teams_no hlt (by rw [teamAt_eq hlt, hd]; simp)
                  go_wp2
                  go_ret
                  exact ⟨ret_bool HR.out.symm, HB2.out⟩
                | false =>
                  have HOK : Hid (∀ i, i < 0 + 1 → teamAt Ts i = true) := fun i hi => by
                    by_cases e : i = 0
                    · subst e; rw [teamAt_eq hlt, hd]; simp [hn, hoe, hht]
                    · exact HA.out i (by omega)
                  go_wp2
                  go_roundw
                  case rel => exact ⟨0 + 1, by go_num, by omega, HB2.out, HOK.out⟩
                  case measure => simp [intOf]; omega
              · have hht : hasT Ts Ts[0].ov = false := by rw [hasT_eq]; exact decide_eq_false hp
                have HR : Hid (teamsB Ts = false) := teams_no hlt (by rw [teamAt_eq hlt, hht, hoe]; simp)
                rw [placeT_ge hp]
                clear hp
                go_wp2
                go_ret
                exact ⟨ret_bool HR.out.symm, HBB.out⟩
          | succ j =>
            have HBE : Hid (((Ts[j + 1 - 1]?.map Tm.nm).getD ⟨#[]⟩) = Ts[j].nm) := before_eq hlt
            have hcj : wr.cell? ⟨b, off + j * 2, none⟩ = some (.string Ts[j].nm) := by rw [HB.out.cell (p := ⟨b, _, none⟩) hbw]; exact (hc j (by omega)).2.c0
            have hjw : IntKind.i64.wrap (j : Int) = j := by rw [IntKind.wrap_i64]; omega
            have hjl : j < Ts.length := by omega
            have hdl : decide ((j : Int) + 1 < (Ts.length : Int)) = true := by simp; omega
            have hbo : b < wr.heap.size := Nat.lt_of_lt_of_le hbw HB.out.size
            have cj2 : ∀ o, (wr.alloc o).cell? ⟨b, off + j * 2, none⟩ = some (.string Ts[j].nm) := fun o => by rw [((Below.refl wr.heap.size wr).alloc (Nat.le_refl _) o).cell (p := ⟨b, _, none⟩) hbo]; exact hcj
            have cj3 : ∀ o n, ((wr.alloc o).drewN n).cell? ⟨b, off + j * 2, none⟩ = some (.string Ts[j].nm) := fun o n => cj2 o
            cases hls : Op.bytesLess Ts[j].nm.toList Ts[j + 1].nm.toList with
            | false =>
              go_wp2
              go_quiet ((go_at_call 101; exact (isName_any _ _ HSZ.out.s0).mono fun _ _ h => ⟨h.1, _, h.2⟩))
              go_wp2
              go_ret
              exact ⟨ret_bool (teams_no hlt (by rw [teamAt_eq hlt]; rw [HBE.out, hls]; simp)).symm, below_drewN (HB.out.alloc HB.out.size _) _⟩
            | true =>
              go_wp2
              go_quiet ((go_at_call 101; exact (isName_any _ _ HSZ.out.s0).mono fun _ _ h => ⟨h.1, _, h.2⟩))
              try simp only [hn]
              try simp only [hls]
              generalize hWb : World.drewN _ _ = Wb
              have HBX : Hid (Box Wb wr.heap.size #[.string Ts[j + 1].nm, .string Ts[j + 1].ov]) := by rw [← hWb]; exact (Box.new _ _ _ _ rfl).on (below_drewN (Below.refl _ _) _)
              have HBB : Hid (Below w.heap.size w Wb) := by rw [← hWb]; exact below_drewN (HB.out.alloc HB.out.size _) _
              clear hWb
              have b0 : Wb.cell? ⟨wr.heap.size, 0, none⟩ = some (.string Ts[j + 1].nm) := HBX.out.cell 0
              have b1 : Wb.cell? ⟨wr.heap.size, 1, none⟩ = some (.string Ts[j + 1].ov) := HBX.out.cell 1
              cases hoe : Ts[j + 1].ov.toList.isEmpty with
              | true =>
                go_wp2_with fail
                refine (tooDeep_any lo _ Ts Ts[j + 1].nm _ (HV.out.below HBB.out)).mono ?_
                rintro e w2 ⟨rfl, hb2⟩
                have HB2 : Hid (Below w.heap.size w w2) := HBB.out.trans (hb2.mono HBB.out.size)
                clear hb2 HBB HBX b0 b1
                cases hd : deepN Ts 5 Ts[j + 1].nm with
                | true =>
                  have HR : Hid (teamsB Ts = false) := teams_no hlt (by rw [teamAt_eq hlt, hd]; simp)
                  go_wp2
                  go_ret
                  exact ⟨ret_bool HR.out.symm, HB2.out⟩
                | false =>
                  have HOK : Hid (∀ i, i < j + 1 + 1 → teamAt Ts i = true) := fun i hi => by
                    by_cases e : i = j + 1
                    · subst e; rw [teamAt_eq hlt, hd]; rw [HBE.out, hls]; simp [hn, hoe]
                    · exact HA.out i (by omega)
                  go_wp2
                  go_roundw
                  case rel => exact ⟨j + 1 + 1, by go_num, by omega, HB2.out, HOK.out⟩
                  case measure => simp [intOf]; omega
              | false =>
                go_wp2_with fail
                refine (teamPlace_any lo _ Ts Ts[j + 1].ov _ (HV.out.below HBB.out)).mono ?_
                rintro e w1 ⟨rfl, hb1⟩
                have HBX := hide (HBX.out.on hb1)
                have HBB : Hid (Below w.heap.size w w1) := HBB.out.trans (hb1.mono HBB.out.size)
                clear hb1 b0 b1
                have b0 : w1.cell? ⟨wr.heap.size, 0, none⟩ = some (.string Ts[j + 1].nm) := HBX.out.cell 0
                have b1 : w1.cell? ⟨wr.heap.size, 1, none⟩ = some (.string Ts[j + 1].ov) := HBX.out.cell 1
                by_cases hp : plT Ts Ts[j + 1].ov < Ts.length
                · have hht : hasT Ts Ts[j + 1].ov = true := by rw [hasT_eq]; exact decide_eq_true hp
                  rw [placeT_lt hp]
                  clear hp
                  generalize plT Ts Ts[j + 1].ov = pp
                  go_wp2_with fail
                  refine (tooDeep_any lo _ Ts Ts[j + 1].nm _ (HV.out.below HBB.out)).mono ?_
                  rintro e w2 ⟨rfl, hb2⟩
                  have HB2 : Hid (Below w.heap.size w w2) := HBB.out.trans (hb2.mono HBB.out.size)
                  clear hb2 HBB HBX b0 b1
                  cases hd : deepN Ts 5 Ts[j + 1].nm with
                  | true =>
                    have HR : Hid (teamsB Ts = false) := teams_no hlt (by rw [teamAt_eq hlt, hd]; simp)
                    go_wp2
                    go_ret
                    exact ⟨ret_bool HR.out.symm, HB2.out⟩
                  | false =>
                    have HOK : Hid (∀ i, i < j + 1 + 1 → teamAt Ts i = true) := fun i hi => by
                      by_cases e : i = j + 1
                      · subst e; rw [teamAt_eq hlt, hd]; rw [HBE.out, hls]; simp [hn, hoe, hht]
                      · exact HA.out i (by omega)
                    go_wp2
                    go_roundw
                    case rel => exact ⟨j + 1 + 1, by go_num, by omega, HB2.out, HOK.out⟩
                    case measure => simp [intOf]; omega
                · have hht : hasT Ts Ts[j + 1].ov = false := by rw [hasT_eq]; exact decide_eq_false hp
                  have HR : Hid (teamsB Ts = false) := teams_no hlt (by rw [teamAt_eq hlt, hht, hoe]; simp)
                  rw [placeT_ge hp]
                  clear hp
                  go_wp2
                  go_ret
                  exact ⟨ret_bool HR.out.symm, HBB.out⟩
      · have HR : Hid (teamsB Ts = true) := teams_yes H12.out (by omega) HA.out
        go_wp2
        go_ret
        exact ⟨ret_bool HR.out.symm, HB.out⟩

end Go.Proofs.YtdeammfdkaomlaaGreat
namespace Go.Proofs.YtdeammfdkaomlaaGreat
open Go.RowKit Go.Deep

def PuOne (b o _c0 _c1 : Nat) (w : World) (x : Pu) : Prop := PuSize x ∧ PuCells w b o x
theorem PuOne.near {b o c0 c1 o1 d0 d1 : Nat} {w w' : World} {x : Pu} (h : PuOne b o c0 c1 w x) (hn : Near b o1 5 d0 d1 w w') (ho : o + 5 ≤ o1 ∨ o1 + 5 ≤ o) (hi : c1 ≤ d0 ∨ d1 ≤ c0) (hb : b < c0 ∨ c1 ≤ b) : PuOne b o c0 c1 w' x := by
  obtain ⟨hs, hc⟩ := h
  obtain ⟨h0, h1, h2, h3, h4⟩ := hc
  have e : ∀ t, t < 5 → w'.cell? ⟨b, o + t, none⟩ = w.cell? ⟨b, o + t, none⟩ := fun t ht => hn.cell _ (by omega)
  have e0 : w'.cell? ⟨b, o, none⟩ = w.cell? ⟨b, o, none⟩ := hn.cell _ (by omega)
  exact ⟨hs, ⟨e0.trans h0, (e 1 (by omega)).trans h1, (e 2 (by omega)).trans h2, (e 3 (by omega)).trans h3, (e 4 (by omega)).trans h4⟩⟩
theorem PuOne.touch {b o c0 c1 : Nat} {lo hi : Nat} {w w' : World} {x : Pu} (h : PuOne b o c0 c1 w x) (ht : Touch lo hi w w') (hlt : b < w.heap.size) (hb : b < lo ∨ hi ≤ b) (_hi : c1 ≤ lo ∨ hi ≤ c0) : PuOne b o c0 c1 w' x := by
  obtain ⟨hs, hc⟩ := h
  obtain ⟨h0, h1, h2, h3, h4⟩ := hc
  exact ⟨hs, ⟨(ht.cell (p := ⟨b, o, none⟩) hlt hb).trans h0, (ht.cell (p := ⟨b, o + 1, none⟩) hlt hb).trans h1, (ht.cell (p := ⟨b, o + 2, none⟩) hlt hb).trans h2, (ht.cell (p := ⟨b, o + 3, none⟩) hlt hb).trans h3, (ht.cell (p := ⟨b, o + 4, none⟩) hlt hb).trans h4⟩⟩
theorem PuOne.below {b o c0 c1 : Nat}  {w w' : World} {x : Pu} (h : PuOne b o c0 c1 w x) (ht : Below w.heap.size w w') (hlt : b < w.heap.size) : PuOne b o c0 c1 w' x := by
  obtain ⟨hs, hc⟩ := h
  obtain ⟨h0, h1, h2, h3, h4⟩ := hc
  exact ⟨hs, ⟨(ht.cell (p := ⟨b, o, none⟩) hlt).trans h0, (ht.cell (p := ⟨b, o + 1, none⟩) hlt).trans h1, (ht.cell (p := ⟨b, o + 2, none⟩) hlt).trans h2, (ht.cell (p := ⟨b, o + 3, none⟩) hlt).trans h3, (ht.cell (p := ⟨b, o + 4, none⟩) hlt).trans h4⟩⟩
structure PuRow (lo hi : Nat) (w : World) (b off n : Nat) (c : Nat → Nat) (X : Nat → Pu) : Prop where
  lt : b < w.heap.size
  low : lo ≤ b
  bc : b < c 0
  bh : b < hi
  mono : ∀ i, i < n → c i ≤ c (i + 1)
  top : c n ≤ hi
  frz : ∀ i, w.frozen? ⟨b, i, none⟩ = false
  row : ∀ i, i < n → PuOne b (off + i * 5) (c i) (c (i + 1)) w (X i)
theorem PuRow.le {lo hi : Nat} {w : World} {b off n : Nat} {c : Nat → Nat} {X : Nat → Pu} (h : PuRow lo hi w b off n c X) {i : Nat} : ∀ {j : Nat}, i ≤ j → j ≤ n → c i ≤ c j := by
  intro j
  induction j with
  | zero => intro hij _; have : i = 0 := by omega
            subst this; exact Nat.le_refl _
  | succ j ih =>
    intro hij hjn
    by_cases e : i = j + 1
    · subst e; exact Nat.le_refl _
    · exact Nat.le_trans (ih (by omega) (by omega)) (h.mono j (by omega))
theorem PuRow.near {lo hi : Nat} {w w' : World} {b off n : Nat} {c : Nat → Nat} {X : Nat → Pu} (h : PuRow lo hi w b off n c X) {j : Nat} (hj : j < n) (hn : Near b (off + j * 5) 5 (c j) (c (j + 1)) w w') {x : Pu} (hx : PuOne b (off + j * 5) (c j) (c (j + 1)) w' x) : PuRow lo hi w' b off n c (fun i => if i = j then x else X i) := by
  refine ⟨Nat.lt_of_lt_of_le h.lt hn.size, h.low, h.bc, h.bh, h.mono, h.top, fun i => (hn.frz i).trans (h.frz i), fun i hi' => ?_⟩
  by_cases e : i = j
  · subst e; rw [if_pos rfl]; exact hx
  · rw [if_neg e]
    have h0 := h.le (Nat.zero_le i) (by omega)
    have hbc := h.bc
    refine (h.row i hi').near hn (by omega) ?_ (by omega)
    rcases Nat.lt_or_ge i j with hij | hij
    · exact Or.inl (h.le (by omega) (by omega))
    · exact Or.inr (h.le (by omega) (by omega))
theorem PuRow.touch {lo hi lo' hi' : Nat} {w w' : World} {b off n : Nat} {c : Nat → Nat} {X : Nat → Pu} (h : PuRow lo hi w b off n c X) (ht : Touch lo' hi' w w') (ho : hi ≤ lo' ∨ hi' ≤ lo) : PuRow lo hi w' b off n c X := by
  have h1 := h.low
  have h2 := h.bh
  have h3 := h.top
  have h4 := h.bc
  refine ⟨Nat.lt_of_lt_of_le h.lt ht.size, h.low, h.bc, h.bh, h.mono, h.top, fun i => (ht.frozen (p := ⟨b, i, none⟩) h.lt (by simp only []; omega)).trans (h.frz i), fun i hi' => ?_⟩
  have h5 := h.le (Nat.zero_le i) (by omega)
  have h6 := h.le (i := i + 1) (j := n) (by omega) (Nat.le_refl _)
  exact (h.row i hi').touch ht h.lt (by omega) (by omega)
theorem PuRow.below {lo hi : Nat} {w w' : World} {b off n : Nat} {c : Nat → Nat} {X : Nat → Pu} (h : PuRow lo hi w b off n c X) (ht : Below w.heap.size w w') : PuRow lo hi w' b off n c X :=
  ⟨Nat.lt_of_lt_of_le h.lt ht.size, h.low, h.bc, h.bh, h.mono, h.top, fun i => (ht.frozen (p := ⟨b, i, none⟩) h.lt).trans (h.frz i), fun i hi' => (h.row i hi').below ht h.lt⟩
theorem PuRow.to {lo hi : Nat} {w : World} {b off n : Nat} {c : Nat → Nat} {X Y : Nat → Pu} (h : PuRow lo hi w b off n c X) (e : ∀ i, i < n → X i = Y i) : PuRow lo hi w b off n c Y :=
  ⟨h.lt, h.low, h.bc, h.bh, h.mono, h.top, h.frz, fun i hi' => e i hi' ▸ h.row i hi'⟩
/-- a list of one's own -/
def PusOwn (lo hi : Nat) (w : World) (v : Value) (Xl : List Pu) : Prop :=
  (∃ (a : Option Addr) (cap : Nat), v = .slice a 0 cap ∧ Xl = []) ∨
  ∃ (b off cap : Nat) (c : Nat → Nat) (X : Nat → Pu), v = .slice (some ⟨b, off, none⟩) Xl.length cap ∧ Xl ≠ [] ∧ Xl.length ≤ maxLen ∧ Xl.length ≤ cap ∧ (∀ i (h : i < Xl.length), X i = Xl[i]) ∧ PuRow lo hi w b off Xl.length c X
theorem PusOwn.touch {lo hi lo' hi' : Nat} {w w' : World} {v : Value} {Xl : List Pu} (h : PusOwn lo hi w v Xl) (ht : Touch lo' hi' w w') (ho : hi ≤ lo' ∨ hi' ≤ lo) : PusOwn lo hi w' v Xl := by
  rcases h with h | ⟨b, off, cap, c, X, h1, h2, h3, h4, h5, h6⟩
  · exact Or.inl h
  · exact Or.inr ⟨b, off, cap, c, X, h1, h2, h3, h4, h5, h6.touch ht ho⟩
theorem PusOwn.below {lo hi : Nat} {w w' : World} {v : Value} {Xl : List Pu} (h : PusOwn lo hi w v Xl) (ht : Below w.heap.size w w') : PusOwn lo hi w' v Xl := by
  rcases h with h | ⟨b, off, cap, c, X, h1, h2, h3, h4, h5, h6⟩
  · exact Or.inl h
  · exact Or.inr ⟨b, off, cap, c, X, h1, h2, h3, h4, h5, h6.below ht⟩
theorem PusOwn.form {lo hi : Nat} {w : World} {v : Value} {Xl : List Pu} (h : PusOwn lo hi w v Xl) : ∃ a cap, v = .slice a Xl.length cap := by
  rcases h with ⟨a, cap, h, rfl⟩ | ⟨b, off, cap, c, X, h1, _⟩
  · exact ⟨a, cap, h⟩
  · exact ⟨_, cap, h1⟩
theorem PusOwn.at {lo hi : Nat} {w : World} {v : Value} {Xl : List Pu} (h : PusOwn lo hi w v Xl) : PusAt lo w v Xl := by
  rcases h with h | ⟨b, off, cap, c, X, h1, h2, h3, h4, h5, h6⟩
  · exact Or.inl h
  · refine Or.inr ⟨b, off, cap, h1, h2, h3, h6.lt, h6.low, h4, fun i hi' => ?_⟩
    have hr := h6.row i hi'
    rw [h5 i hi'] at hr
    obtain ⟨hs, hc⟩ := hr
    exact ⟨hs, hc⟩
structure PuSt (wr : World) (b o c0 c1 : Nat) (v : World) (y : Pu) : Prop where
  near : Near b o 5 c0 c1 wr v
  bc : b < c0
  cells : PuCells v b o y
  frz : ∀ i, v.frozen? ⟨b, i, none⟩ = false
  lt : b < v.heap.size
theorem PuSt.below {wr : World} {b o c0 c1 : Nat} {v v' : World} {y : Pu} (h : PuSt wr b o c0 c1 v y) (hb : Below v.heap.size v v') : PuSt wr b o c0 c1 v' y :=
  ⟨h.near.trans (Near.below hb h.lt), h.bc, h.cells.below hb h.lt, fun i => (hb.frozen (p := ⟨b, i, none⟩) h.lt).trans (h.frz i), Nat.lt_of_lt_of_le h.lt hb.size⟩
theorem PuSt.s0 {wr : World} {b o c0 c1 : Nat} {v : World} {y : Pu} (h : PuSt wr b o c0 c1 v y) (u : ByteArray) : PuSt wr b o c0 c1 (v.setCell ⟨b, o, none⟩ (.string u)) { y with dr := u } := by
  obtain ⟨h0, h1, h2, h3, h4⟩ := h.cells
  have ht : Touch b (b + 1) v (v.setCell ⟨b, o, none⟩ (.string u)) := Touch.setCell _ _ _ _ _ ⟨Nat.le_refl _, by simp only []; omega⟩
  have hbc := h.bc
  exact ⟨h.near.trans (Near.set _ _ _ _ _ _ _ _ (by omega) (by omega)), h.bc, ⟨World.cell?_setCell_same' _ _ _ (by rw [h0]; rfl), (cne (by omega)).trans h1, (cne (by omega)).trans h2, (cne (by omega)).trans h3, (cne (by omega)).trans h4⟩, fun i => by rw [World.frozen?_setCell]; exact h.frz i, by simpa [World.setCell] using h.lt⟩
theorem PuSt.s1 {wr : World} {b o c0 c1 : Nat} {v : World} {y : Pu} (h : PuSt wr b o c0 c1 v y) (u : ByteArray) : PuSt wr b o c0 c1 (v.setCell ⟨b, o + 1, none⟩ (.string u)) { y with tm := u } := by
  obtain ⟨h0, h1, h2, h3, h4⟩ := h.cells
  have ht : Touch b (b + 1) v (v.setCell ⟨b, o + 1, none⟩ (.string u)) := Touch.setCell _ _ _ _ _ ⟨Nat.le_refl _, by simp only []; omega⟩
  have hbc := h.bc
  exact ⟨h.near.trans (Near.set _ _ _ _ _ _ _ _ (by omega) (by omega)), h.bc, ⟨(cne (by omega)).trans h0, World.cell?_setCell_same' _ _ _ (by rw [h1]; rfl), (cne (by omega)).trans h2, (cne (by omega)).trans h3, (cne (by omega)).trans h4⟩, fun i => by rw [World.frozen?_setCell]; exact h.frz i, by simpa [World.setCell] using h.lt⟩
theorem PuSt.s2 {wr : World} {b o c0 c1 : Nat} {v : World} {y : Pu} (h : PuSt wr b o c0 c1 v y) (u : ByteArray) : PuSt wr b o c0 c1 (v.setCell ⟨b, o + 2, none⟩ (.string u)) { y with re := u } := by
  obtain ⟨h0, h1, h2, h3, h4⟩ := h.cells
  have ht : Touch b (b + 1) v (v.setCell ⟨b, o + 2, none⟩ (.string u)) := Touch.setCell _ _ _ _ _ ⟨Nat.le_refl _, by simp only []; omega⟩
  have hbc := h.bc
  exact ⟨h.near.trans (Near.set _ _ _ _ _ _ _ _ (by omega) (by omega)), h.bc, ⟨(cne (by omega)).trans h0, (cne (by omega)).trans h1, World.cell?_setCell_same' _ _ _ (by rw [h2]; rfl), (cne (by omega)).trans h3, (cne (by omega)).trans h4⟩, fun i => by rw [World.frozen?_setCell]; exact h.frz i, by simpa [World.setCell] using h.lt⟩
theorem PuSt.s3 {wr : World} {b o c0 c1 : Nat} {v : World} {y : Pu} (h : PuSt wr b o c0 c1 v y) (u : Int) : PuSt wr b o c0 c1 (v.setCell ⟨b, o + 3, none⟩ (.int .i64 u)) { y with am := u } := by
  obtain ⟨h0, h1, h2, h3, h4⟩ := h.cells
  have ht : Touch b (b + 1) v (v.setCell ⟨b, o + 3, none⟩ (.int .i64 u)) := Touch.setCell _ _ _ _ _ ⟨Nat.le_refl _, by simp only []; omega⟩
  have hbc := h.bc
  exact ⟨h.near.trans (Near.set _ _ _ _ _ _ _ _ (by omega) (by omega)), h.bc, ⟨(cne (by omega)).trans h0, (cne (by omega)).trans h1, (cne (by omega)).trans h2, World.cell?_setCell_same' _ _ _ (by rw [h3]; rfl), (cne (by omega)).trans h4⟩, fun i => by rw [World.frozen?_setCell]; exact h.frz i, by simpa [World.setCell] using h.lt⟩
theorem PuSt.s4 {wr : World} {b o c0 c1 : Nat} {v : World} {y : Pu} (h : PuSt wr b o c0 c1 v y) (u : Int) : PuSt wr b o c0 c1 (v.setCell ⟨b, o + 4, none⟩ (.int .i64 u)) { y with un := u } := by
  obtain ⟨h0, h1, h2, h3, h4⟩ := h.cells
  have ht : Touch b (b + 1) v (v.setCell ⟨b, o + 4, none⟩ (.int .i64 u)) := Touch.setCell _ _ _ _ _ ⟨Nat.le_refl _, by simp only []; omega⟩
  have hbc := h.bc
  exact ⟨h.near.trans (Near.set _ _ _ _ _ _ _ _ (by omega) (by omega)), h.bc, ⟨(cne (by omega)).trans h0, (cne (by omega)).trans h1, (cne (by omega)).trans h2, (cne (by omega)).trans h3, World.cell?_setCell_same' _ _ _ (by rw [h4]; rfl)⟩, fun i => by rw [World.frozen?_setCell]; exact h.frz i, by simpa [World.setCell] using h.lt⟩
end Go.Proofs.YtdeammfdkaomlaaGreat
