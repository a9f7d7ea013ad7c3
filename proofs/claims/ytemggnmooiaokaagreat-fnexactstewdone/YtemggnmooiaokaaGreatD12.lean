import Derived.Test.YtemggnmooiaokaaGreatD06
namespace Go.Proofs.YtemggnmooiaokaaGreat
open Go.RowKit Go.Deep

def SvsFillO (wr : World) (B : Nat) (Xl : List Sv) (k : Nat) (c : Nat → Nat) : Prop :=
  B < c 0 ∧ (∀ i, i < k → c i ≤ c (i + 1)) ∧ c k ≤ wr.heap.size ∧ ∃ f, wr.rowIs B 49 (Xl.length * 13) f ∧ ∀ i (h : i < Xl.length), i < k → SvSize Xl[i] ∧ f (i * 13) = .string Xl[i].nm ∧ f (i * 13 + 1) = .int .i64 Xl[i].ve ∧ f (i * 13 + 2) = .bool Xl[i].gn ∧ f (i * 13 + 3) = .int .i64 Xl[i].im ∧ f (i * 13 + 4) = .int .i64 Xl[i].wa ∧ f (i * 13 + 5) = .int .i64 Xl[i].dn ∧ f (i * 13 + 6) = .int .i64 Xl[i].ov ∧ f (i * 13 + 7) = .int .i64 Xl[i].nx ∧ f (i * 13 + 8) = .int .i64 Xl[i].pr ∧ f (i * 13 + 9) = .int .i64 Xl[i].ls ∧ f (i * 13 + 10) = .int .i64 Xl[i].ms ∧ f (i * 13 + 11) = .int .i64 Xl[i].ld ∧ f (i * 13 + 12) = .int .i64 Xl[i].cl
theorem SvsFillO.le {wr : World} {B : Nat} {Xl : List Sv} {k : Nat} {c : Nat → Nat} (h : SvsFillO wr B Xl k c) {i : Nat} : ∀ {j : Nat}, i ≤ j → j ≤ k → c i ≤ c j := by
  intro j
  induction j with
  | zero => intro hij _; have : i = 0 := by omega
            subst this; exact Nat.le_refl _
  | succ j ih =>
    intro hij hjn
    by_cases e : i = j + 1
    · subst e; exact Nat.le_refl _
    · exact Nat.le_trans (ih (by omega) (by omega)) (h.2.1 j (by omega))
theorem SvsFillO.below {wr w1 : World} {B : Nat} {Xl : List Sv} {k : Nat} {c : Nat → Nat} (h : SvsFillO wr B Xl k c) (hb : Below wr.heap.size wr w1) : SvsFillO w1 B Xl k c := by
  obtain ⟨g1, g2, g3, f, hr, hall⟩ := h
  refine ⟨g1, g2, Nat.le_trans g3 hb.size, f, hr.of_block (hb.block B hr.lt), fun i hi hik => ?_⟩
  obtain ⟨hz, h0, h1, h2, h3, h4, h5, h6, h7, h8, h9, h10, h11, h12⟩ := hall i hi hik
  exact ⟨hz, h0, h1, h2, h3, h4, h5, h6, h7, h8, h9, h10, h11, h12⟩
theorem SvsFillO.free {wr : World} {B : Nat} {Xl : List Sv} {k : Nat} {c : Nat → Nat} (h : SvsFillO wr B Xl k c) (i : Nat) : wr.frozen? ⟨B, i, none⟩ = false := by
  obtain ⟨_, _, _, f, hr, _⟩ := h
  exact hr.frozen i
theorem SvsFillO.there {wr : World} {B : Nat} {Xl : List Sv} {k : Nat} {c : Nat → Nat} (h : SvsFillO wr B Xl k c) (i : Nat) (hi : i < Xl.length * 13) : ∃ v, wr.cell? ⟨B, i, none⟩ = some v := by
  obtain ⟨_, _, _, f, hr, _⟩ := h
  exact ⟨_, hr.cell hi⟩
theorem SvsFillO.lt {wr : World} {B : Nat} {Xl : List Sv} {k : Nat} {c : Nat → Nat} (h : SvsFillO wr B Xl k c) : B < wr.heap.size := by
  obtain ⟨_, _, _, f, hr, _⟩ := h
  exact hr.lt
theorem SvsFillO.step {w1 : World} {B : Nat} {Xl : List Sv} {k : Nat} {c : Nat → Nat} (h : SvsFillO w1 B Xl k c) (hk : k < Xl.length) (hz : SvSize Xl[k]) (d : Nat) (hd0 : c k ≤ d) (hd : d ≤ w1.heap.size) :
    SvsFillO (((((((((((((w1.setCell ⟨B, k * 13, none⟩ (.string Xl[k].nm)).setCell ⟨B, k * 13 + 1, none⟩ (.int .i64 Xl[k].ve)).setCell ⟨B, k * 13 + 2, none⟩ (.bool Xl[k].gn)).setCell ⟨B, k * 13 + 3, none⟩ (.int .i64 Xl[k].im)).setCell ⟨B, k * 13 + 4, none⟩ (.int .i64 Xl[k].wa)).setCell ⟨B, k * 13 + 5, none⟩ (.int .i64 Xl[k].dn)).setCell ⟨B, k * 13 + 6, none⟩ (.int .i64 Xl[k].ov)).setCell ⟨B, k * 13 + 7, none⟩ (.int .i64 Xl[k].nx)).setCell ⟨B, k * 13 + 8, none⟩ (.int .i64 Xl[k].pr)).setCell ⟨B, k * 13 + 9, none⟩ (.int .i64 Xl[k].ls)).setCell ⟨B, k * 13 + 10, none⟩ (.int .i64 Xl[k].ms)).setCell ⟨B, k * 13 + 11, none⟩ (.int .i64 Xl[k].ld)).setCell ⟨B, k * 13 + 12, none⟩ (.int .i64 Xl[k].cl)) B Xl (k + 1) (fun j => if j ≤ k then c j else d) := by
  have hle := fun i (hi : i ≤ k) => h.le (i := 0) (j := i) (Nat.zero_le _) hi
  have hle2 := fun i (hi : i < k) => h.le (i := i + 1) (j := k) (by omega) (Nat.le_refl _)
  obtain ⟨g1, g2, g3, f, hr, hall⟩ := h
  have hts : Touch B (B + 1) w1 (((((((((((((w1.setCell ⟨B, k * 13, none⟩ (.string Xl[k].nm)).setCell ⟨B, k * 13 + 1, none⟩ (.int .i64 Xl[k].ve)).setCell ⟨B, k * 13 + 2, none⟩ (.bool Xl[k].gn)).setCell ⟨B, k * 13 + 3, none⟩ (.int .i64 Xl[k].im)).setCell ⟨B, k * 13 + 4, none⟩ (.int .i64 Xl[k].wa)).setCell ⟨B, k * 13 + 5, none⟩ (.int .i64 Xl[k].dn)).setCell ⟨B, k * 13 + 6, none⟩ (.int .i64 Xl[k].ov)).setCell ⟨B, k * 13 + 7, none⟩ (.int .i64 Xl[k].nx)).setCell ⟨B, k * 13 + 8, none⟩ (.int .i64 Xl[k].pr)).setCell ⟨B, k * 13 + 9, none⟩ (.int .i64 Xl[k].ls)).setCell ⟨B, k * 13 + 10, none⟩ (.int .i64 Xl[k].ms)).setCell ⟨B, k * 13 + 11, none⟩ (.int .i64 Xl[k].ld)).setCell ⟨B, k * 13 + 12, none⟩ (.int .i64 Xl[k].cl)) := ((((((((((((Touch.setB B _ _ _).trans (Touch.setB B _ _ _)).trans (Touch.setB B _ _ _)).trans (Touch.setB B _ _ _)).trans (Touch.setB B _ _ _)).trans (Touch.setB B _ _ _)).trans (Touch.setB B _ _ _)).trans (Touch.setB B _ _ _)).trans (Touch.setB B _ _ _)).trans (Touch.setB B _ _ _)).trans (Touch.setB B _ _ _)).trans (Touch.setB B _ _ _)).trans (Touch.setB B _ _ _)
  refine ⟨by simpa using g1, fun i hi => ?_, ?_, _, (((((((((((((hr.set _ _).set _ _).set _ _).set _ _).set _ _).set _ _).set _ _).set _ _).set _ _).set _ _).set _ _).set _ _).set _ _), fun i hi hik => ?_⟩
  · dsimp only
    by_cases e : i = k
    · subst e; rw [if_pos (Nat.le_refl _), if_neg (by omega)]; exact hd0
    · rw [if_pos (by omega), if_pos (by omega)]; exact g2 i (by omega)
  · dsimp only; rw [if_neg (by omega)]; exact Nat.le_trans hd hts.size
  by_cases e : i = k
  · subst e
    have hb0 := hle i (Nat.le_refl _)
    exact ⟨hz, by simp, by simp, by simp, by simp, by simp, by simp, by simp, by simp, by simp, by simp, by simp, by simp, by simp⟩
  · have hb0 := hle i (by omega)
    obtain ⟨hz, h0, h1, h2, h3, h4, h5, h6, h7, h8, h9, h10, h11, h12⟩ := hall i hi (by omega)
    refine ⟨hz, ?_, ?_, ?_, ?_, ?_, ?_, ?_, ?_, ?_, ?_, ?_, ?_, ?_⟩
    · rw [if_neg (by omega), if_neg (by omega), if_neg (by omega), if_neg (by omega), if_neg (by omega), if_neg (by omega), if_neg (by omega), if_neg (by omega), if_neg (by omega), if_neg (by omega), if_neg (by omega), if_neg (by omega), if_neg (by omega)]; exact h0
    · rw [if_neg (by omega), if_neg (by omega), if_neg (by omega), if_neg (by omega), if_neg (by omega), if_neg (by omega), if_neg (by omega), if_neg (by omega), if_neg (by omega), if_neg (by omega), if_neg (by omega), if_neg (by omega), if_neg (by omega)]; exact h1
    · rw [if_neg (by omega), if_neg (by omega), if_neg (by omega), if_neg (by omega), if_neg (by omega), if_neg (by omega), if_neg (by omega), if_neg (by omega), if_neg (by omega), if_neg (by omega), if_neg (by omega), if_neg (by omega), if_neg (by omega)]; exact h2
    · rw [if_neg (by omega), if_neg (by omega), if_neg (by omega), if_neg (by omega), if_neg (by omega), if_neg (by omega), if_neg (by omega), if_neg (by omega), if_neg (by omega), if_neg (by omega), if_neg (by omega), if_neg (by omega), if_neg (by omega)]; exact h3
    · rw [if_neg (by omega), if_neg (by omega), if_neg (by omega), if_neg (by omega), if_neg (by omega), if_neg (by omega), if_neg (by omega), if_neg (by omega), if_neg (by omega), if_neg (by omega), if_neg (by omega), if_neg (by omega), if_neg (by omega)]; exact h4
    · rw [if_neg (by omega), if_neg (by omega), if_neg (by omega), if_neg (by omega), if_neg (by omega), if_neg (by omega), if_neg (by omega), if_neg (by omega), if_neg (by omega), if_neg (by omega), if_neg (by omega), if_neg (by omega), if_neg (by omega)]; exact h5
    · rw [if_neg (by omega), if_neg (by omega), if_neg (by omega), if_neg (by omega), if_neg (by omega), if_neg (by omega), if_neg (by omega), if_neg (by omega), if_neg (by omega), if_neg (by omega), if_neg (by omega), if_neg (by omega), if_neg (by omega)]; exact h6
    · rw [if_neg (by omega), if_neg (by omega), if_neg (by omega), if_neg (by omega), if_neg (by omega), if_neg (by omega), if_neg (by omega), if_neg (by omega), if_neg (by omega), if_neg (by omega), if_neg (by omega), if_neg (by omega), if_neg (by omega)]; exact h7
    · rw [if_neg (by omega), if_neg (by omega), if_neg (by omega), if_neg (by omega), if_neg (by omega), if_neg (by omega), if_neg (by omega), if_neg (by omega), if_neg (by omega), if_neg (by omega), if_neg (by omega), if_neg (by omega), if_neg (by omega)]; exact h8
    · rw [if_neg (by omega), if_neg (by omega), if_neg (by omega), if_neg (by omega), if_neg (by omega), if_neg (by omega), if_neg (by omega), if_neg (by omega), if_neg (by omega), if_neg (by omega), if_neg (by omega), if_neg (by omega), if_neg (by omega)]; exact h9
    · rw [if_neg (by omega), if_neg (by omega), if_neg (by omega), if_neg (by omega), if_neg (by omega), if_neg (by omega), if_neg (by omega), if_neg (by omega), if_neg (by omega), if_neg (by omega), if_neg (by omega), if_neg (by omega), if_neg (by omega)]; exact h10
    · rw [if_neg (by omega), if_neg (by omega), if_neg (by omega), if_neg (by omega), if_neg (by omega), if_neg (by omega), if_neg (by omega), if_neg (by omega), if_neg (by omega), if_neg (by omega), if_neg (by omega), if_neg (by omega), if_neg (by omega)]; exact h11
    · rw [if_neg (by omega), if_neg (by omega), if_neg (by omega), if_neg (by omega), if_neg (by omega), if_neg (by omega), if_neg (by omega), if_neg (by omega), if_neg (by omega), if_neg (by omega), if_neg (by omega), if_neg (by omega), if_neg (by omega)]; exact h12
theorem SvsFillO.own {wr : World} {B : Nat} {Xl : List Sv} {k : Nat} {c : Nat → Nat} (h : SvsFillO wr B Xl k c) (hk : k = Xl.length) (hne : Xl ≠ []) (hm : Xl.length ≤ maxLen) : SvsOwn B wr.heap.size wr (.slice (some ⟨B, 0, none⟩) Xl.length Xl.length) Xl := by
  subst hk
  obtain ⟨g1, g2, g3, f, hr, hall⟩ := h
  have h0 : 0 < Xl.length := List.length_pos_iff.2 hne
  refine Or.inr ⟨B, 0, Xl.length, c, fun i => if h : i < Xl.length then Xl[i] else Xl[0], rfl, hne, hm, Nat.le_refl _, fun i hi => by simp [hi], hr.lt, Nat.le_refl _, g1, hr.lt, g2, g3, fun i => hr.frozen i, fun i hi => ?_⟩
  obtain ⟨hz, h0, h1, h2, h3, h4, h5, h6, h7, h8, h9, h10, h11, h12⟩ := hall i hi hi
  simp only [hi, dif_pos]
  rw [Nat.zero_add]
  exact ⟨hz, ⟨by rw [hr.cell (by omega), h0], by rw [hr.cell (by omega), h1], by rw [hr.cell (by omega), h2], by rw [hr.cell (by omega), h3], by rw [hr.cell (by omega), h4], by rw [hr.cell (by omega), h5], by rw [hr.cell (by omega), h6], by rw [hr.cell (by omega), h7], by rw [hr.cell (by omega), h8], by rw [hr.cell (by omega), h9], by rw [hr.cell (by omega), h10], by rw [hr.cell (by omega), h11], by rw [hr.cell (by omega), h12]⟩⟩
theorem SvsFillO.new (w : World) (Xl : List Sv) (z : Array Value) : SvsFillO (w.alloc (.cells (madeCells z (Xl.length * 13)) 49)) w.heap.size Xl 0 (fun _ => w.heap.size + 1) := by
  refine ⟨Nat.lt_succ_self _, fun i hi => by omega, by simp, fun i => (madeCells z (Xl.length * 13)).getD i default, ?_, fun i _ h => by omega⟩
  have := World.rowIs_alloc w (madeCells z (Xl.length * 13)) 49 (fun i => (madeCells z (Xl.length * 13)).getD i default) (fun i hi => by simp [Array.getD, hi])
  rwa [size_madeCells] at this
set_option maxHeartbeats 4000000 in
theorem toSvsO_any (lo : Nat) (v : Value) (Xl : List Sv) (w : World) (hv : SvsAt lo w v Xl) (hn : SvsSmall Xl) :
    Calls Tryz.prog 22 #[v] w fun e w' => ∃ v', e = .returned v' ∧ Below w.heap.size w w' ∧ SvsOwn w.heap.size w'.heap.size w' v' Xl := by
  obtain ⟨i0, hi, hz0, hz1, hz2⟩ := info_parts Tryz.info49
  have HSM := hide hn.2
  have hn1 := hn.1
  clear hn
  by_cases hL : Xl = []
  · subst hL
    obtain ⟨a, cap, rfl⟩ := hv.form
    clear hv
    have hmk : ∀ u : World, (Instr.makeSlice 29 (.int .i64 0) (.int .i64 0)).run Tryz.prog u = .ok (.slice (some ⟨u.heap.size, 0, none⟩) 0 0) (u.alloc (.cells (madeCells (Value.cells (.agg #[.string ⟨#[]⟩, .int .i64 0, .bool false, .int .i64 0, .int .i64 0, .int .i64 0, .int .i64 0, .int .i64 0, .int .i64 0, .int .i64 0, .int .i64 0, .int .i64 0, .int .i64 0])) 0) 49)) := fun u => by
      have h := run_make (P := Tryz.prog) u 29 49 i0 _ Tryz.underlying29 hi hz0 .i64 .i64 0 0 (by omega) (by omega) (by omega) (by omega)
      simpa [hz1] using h
    go_enter Tryz.func22, Tryz.ntmps22
    go_wp2
    go_loop [4] (fun i => i = .int .i64 0) (fun _ => 0)
    case atStart => rfl
    case round =>
      subst hrel
      go_wp2
      go_ret
      exact ⟨_, rfl, (Below.refl _ _).alloc (Nat.le_refl _) _, Or.inl ⟨_, _, rfl, rfl⟩⟩
  · obtain ⟨b, off, cap, rfl, hm, hbw, _, hc⟩ := hv.full hL
    clear hv
    have HM : Hid (Xl.length ≤ maxLen) := hm
    unfold maxLen at hm
    have hmk : ∀ u : World, (Instr.makeSlice 29 (.int .i64 (Xl.length : Int)) (.int .i64 (Xl.length : Int))).run Tryz.prog u = .ok (.slice (some ⟨u.heap.size, 0, none⟩) Xl.length Xl.length) (u.alloc (.cells (madeCells (Value.cells (.agg #[.string ⟨#[]⟩, .int .i64 0, .bool false, .int .i64 0, .int .i64 0, .int .i64 0, .int .i64 0, .int .i64 0, .int .i64 0, .int .i64 0, .int .i64 0, .int .i64 0, .int .i64 0])) (Xl.length * 13)) 49)) := fun u => by
      have h := run_make (P := Tryz.prog) u 29 49 i0 _ Tryz.underlying29 hi hz0 .i64 .i64 Xl.length Xl.length (by omega) (by omega) (by rw [hz2]; omega) (by omega)
      rw [hz1] at h
      simpa using h
    clear hi hz0 hz1 hz2
    go_enter Tryz.func22, Tryz.ntmps22
    go_wp2
    clear hmk
    go_loopw [4] (fun i wr => ∃ (k : Nat) (c : Nat → Nat), i = .int .i64 k ∧ k ≤ Xl.length ∧ Below w.heap.size w wr ∧ SvsFillO wr w.heap.size Xl k c) (fun i _ => Xl.length - (intOf i).toNat)
    case atStart => exact ⟨0, _, rfl, by omega, (Below.refl _ _).alloc (Nat.le_refl _) _, SvsFillO.new w Xl _⟩
    case round =>
      obtain ⟨k, c, rfl, hk, hb, hf⟩ := hrel
      by_cases hlt : k < Xl.length
      · obtain ⟨hs, hc⟩ := hc k hlt
        have HB := hide hb
        have HF := hide hf
        have HSZ := hide hs
        obtain ⟨c0, c1, c2, c3, c4, c5, c6, c7, c8, c9, c10, c11, c12⟩ := hc.below hb hbw
        clear hc hb hf hs
        go_wp2_with fail
        refine (toSv_any _ _).mono ?_
        rintro e w1 ⟨rfl, hb1⟩
        have hf1 := HF.out.below hb1
        have hB : Hid (Below w.heap.size w w1) := HB.out.trans (hb1.mono HB.out.size)
        have HST := hide (hf1.step hlt HSZ.out w1.heap.size (Nat.le_trans HF.out.2.2.1 hb1.size) (Nat.le_refl _))
        have hfr := hf1.free
        obtain ⟨o0, ho0⟩ := hf1.there (k * 13) (by omega)
        obtain ⟨o1, ho1⟩ := hf1.there (k * 13 + 1) (by omega)
        obtain ⟨o2, ho2⟩ := hf1.there (k * 13 + 2) (by omega)
        obtain ⟨o3, ho3⟩ := hf1.there (k * 13 + 3) (by omega)
        obtain ⟨o4, ho4⟩ := hf1.there (k * 13 + 4) (by omega)
        obtain ⟨o5, ho5⟩ := hf1.there (k * 13 + 5) (by omega)
        obtain ⟨o6, ho6⟩ := hf1.there (k * 13 + 6) (by omega)
        obtain ⟨o7, ho7⟩ := hf1.there (k * 13 + 7) (by omega)
        obtain ⟨o8, ho8⟩ := hf1.there (k * 13 + 8) (by omega)
        obtain ⟨o9, ho9⟩ := hf1.there (k * 13 + 9) (by omega)
        obtain ⟨o10, ho10⟩ := hf1.there (k * 13 + 10) (by omega)
        obtain ⟨o11, ho11⟩ := hf1.there (k * 13 + 11) (by omega)
        obtain ⟨o12, ho12⟩ := hf1.there (k * 13 + 12) (by omega)
        clear hf1 hb1 HF HB c0 c1 c2 c3 c4 c5 c6 c7 c8 c9 c10 c11 c12
        go_wp2
        go_roundw
        case rel =>
          exact ⟨k + 1, _, by go_num, by omega, (((((((((((((hB.out.setCell (Nat.le_refl _) _).setCell (Nat.le_refl _) _).setCell (Nat.le_refl _) _).setCell (Nat.le_refl _) _).setCell (Nat.le_refl _) _).setCell (Nat.le_refl _) _).setCell (Nat.le_refl _) _).setCell (Nat.le_refl _) _).setCell (Nat.le_refl _) _).setCell (Nat.le_refl _) _).setCell (Nat.le_refl _) _).setCell (Nat.le_refl _) _).setCell (Nat.le_refl _) _), HST.out⟩
        case measure => simp [intOf]; omega
      · have e : k = Xl.length := by omega
        go_wp2
        go_ret
        exact ⟨_, rfl, hb, hf.own e hL HM.out⟩
end Go.Proofs.YtemggnmooiaokaaGreat
