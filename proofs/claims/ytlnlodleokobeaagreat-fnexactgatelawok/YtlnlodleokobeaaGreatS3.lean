import Derived.Test.YtlnlodleokobeaaGreatS2
namespace Go.Proofs.YtlnlodleokobeaaGreat
open Go.RowKit Go.Deep

theorem Tryz.info157 : (Tryz.prog.info? 157).map (fun i => (i.zero, i.size, i.bytes)) = some (some (.agg #[.string ⟨#[]⟩, .int .i64 0, .int .i64 0, .int .i64 0, .slice none 0 0, .string ⟨#[]⟩, .int .i64 0, .bool false, .bool false, .string ⟨#[]⟩, .string ⟨#[]⟩]), 11, 128) := by kernel_rfl
theorem Tryz.info124 : (Tryz.prog.info? 124).map (fun i => (i.zero, i.size, i.bytes)) = some (some (.agg #[.string ⟨#[]⟩, .slice none 0 0]), 2, 40) := by kernel_rfl

/-- the eleven values of a field in a row told by its index -/
structure FdRow (f : Nat → Value) (o : Nat) (fd : Fd) (wv : Value) : Prop where
  r0 : f (o) = (.string fd.nm)
  r1 : f (o + 1) = (.int .i64 fd.kd)
  r2 : f (o + 2) = (.int .i64 fd.le)
  r3 : f (o + 3) = (.int .i64 fd.mo)
  r4 : f (o + 4) = wv
  r5 : f (o + 5) = (.string fd.to)
  r6 : f (o + 6) = (.int .i64 fd.ro)
  r7 : f (o + 7) = (.bool fd.mu)
  r8 : f (o + 8) = (.bool fd.fx)
  r9 : f (o + 9) = (.string fd.df)
  r10 : f (o + 10) = (.string fd.we)

def FdsFill (wr : World) (B : Nat) (Fs : List Fd) (k : Nat) : Prop :=
  ∃ f, wr.rowIs B 157 (Fs.length * 11) f ∧ ∀ i (h : i < Fs.length), i < k → FdSize Fs[i] ∧ ∃ wv, FdRow f (i * 11) Fs[i] wv ∧ StrsIn (B + 1) wr wv Fs[i].words

theorem FdsFill.below {wr w1 : World} {B : Nat} {Fs : List Fd} {k : Nat} (h : FdsFill wr B Fs k) (hb : Below wr.heap.size wr w1) : FdsFill w1 B Fs k := by
  obtain ⟨f, hr, hall⟩ := h
  refine ⟨f, hr.of_block (hb.block B hr.lt), fun i hi hik => ?_⟩
  obtain ⟨hs, wv, h1, h2⟩ := hall i hi hik
  exact ⟨hs, wv, h1, h2.below hb⟩
theorem FdsFill.free {wr : World} {B : Nat} {Fs : List Fd} {k : Nat} (h : FdsFill wr B Fs k) (i : Nat) : wr.frozen? ⟨B, i, none⟩ = false := by
  obtain ⟨f, hr, _⟩ := h
  exact hr.frozen i
theorem FdsFill.there {wr : World} {B : Nat} {Fs : List Fd} {k : Nat} (h : FdsFill wr B Fs k) (i : Nat) (hi : i < Fs.length * 11) : ∃ v, wr.cell? ⟨B, i, none⟩ = some v := by
  obtain ⟨f, hr, _⟩ := h
  exact ⟨_, hr.cell hi⟩
theorem FdsFill.lt {wr : World} {B : Nat} {Fs : List Fd} {k : Nat} (h : FdsFill wr B Fs k) : B < wr.heap.size := by
  obtain ⟨f, hr, _⟩ := h
  exact hr.lt

theorem FdsFill.step {w1 : World} {B : Nat} {Fs : List Fd} {k : Nat} {wv : Value} (h : FdsFill w1 B Fs k) (hk : k < Fs.length) (hz : FdSize Fs[k]) (hs : StrsIn (B + 1) w1 wv Fs[k].words) :
    FdsFill (((((((((((w1.setCell ⟨B, k * 11, none⟩ (.string Fs[k].nm)).setCell ⟨B, k * 11 + 1, none⟩ (.int .i64 Fs[k].kd)).setCell ⟨B, k * 11 + 2, none⟩ (.int .i64 Fs[k].le)).setCell ⟨B, k * 11 + 3, none⟩ (.int .i64 Fs[k].mo)).setCell ⟨B, k * 11 + 4, none⟩ wv).setCell ⟨B, k * 11 + 5, none⟩ (.string Fs[k].to)).setCell ⟨B, k * 11 + 6, none⟩ (.int .i64 Fs[k].ro)).setCell ⟨B, k * 11 + 7, none⟩ (.bool Fs[k].mu)).setCell ⟨B, k * 11 + 8, none⟩ (.bool Fs[k].fx)).setCell ⟨B, k * 11 + 9, none⟩ (.string Fs[k].df)).setCell ⟨B, k * 11 + 10, none⟩ (.string Fs[k].we)) B Fs (k + 1) := by
  obtain ⟨f, hr, hall⟩ := h
  refine ⟨_, (((((((((((hr.set _ _).set _ _).set _ _).set _ _).set _ _).set _ _).set _ _).set _ _).set _ _).set _ _).set _ _), fun i hi hik => ?_⟩
  by_cases e : i = k
  · subst e
    refine ⟨hz, wv, ⟨?_, ?_, ?_, ?_, ?_, ?_, ?_, ?_, ?_, ?_, ?_⟩, ?_⟩
    · simp
    · simp
    · simp
    · simp
    · simp
    · simp
    · simp
    · simp
    · simp
    · simp
    · simp
    · repeat (refine StrsIn.setCell ?_ (by simp only []; omega) _)
      exact hs
  · obtain ⟨hz', wv', hrow, hst⟩ := hall i hi (by omega)
    refine ⟨hz', wv', ⟨?_, ?_, ?_, ?_, ?_, ?_, ?_, ?_, ?_, ?_, ?_⟩, ?_⟩
    · rw [if_neg (by omega), if_neg (by omega), if_neg (by omega), if_neg (by omega), if_neg (by omega), if_neg (by omega), if_neg (by omega), if_neg (by omega), if_neg (by omega), if_neg (by omega), if_neg (by omega)]; exact hrow.r0
    · rw [if_neg (by omega), if_neg (by omega), if_neg (by omega), if_neg (by omega), if_neg (by omega), if_neg (by omega), if_neg (by omega), if_neg (by omega), if_neg (by omega), if_neg (by omega), if_neg (by omega)]; exact hrow.r1
    · rw [if_neg (by omega), if_neg (by omega), if_neg (by omega), if_neg (by omega), if_neg (by omega), if_neg (by omega), if_neg (by omega), if_neg (by omega), if_neg (by omega), if_neg (by omega), if_neg (by omega)]; exact hrow.r2
    · rw [if_neg (by omega), if_neg (by omega), if_neg (by omega), if_neg (by omega), if_neg (by omega), if_neg (by omega), if_neg (by omega), if_neg (by omega), if_neg (by omega), if_neg (by omega), if_neg (by omega)]; exact hrow.r3
    · rw [if_neg (by omega), if_neg (by omega), if_neg (by omega), if_neg (by omega), if_neg (by omega), if_neg (by omega), if_neg (by omega), if_neg (by omega), if_neg (by omega), if_neg (by omega), if_neg (by omega)]; exact hrow.r4
    · rw [if_neg (by omega), if_neg (by omega), if_neg (by omega), if_neg (by omega), if_neg (by omega), if_neg (by omega), if_neg (by omega), if_neg (by omega), if_neg (by omega), if_neg (by omega), if_neg (by omega)]; exact hrow.r5
    · rw [if_neg (by omega), if_neg (by omega), if_neg (by omega), if_neg (by omega), if_neg (by omega), if_neg (by omega), if_neg (by omega), if_neg (by omega), if_neg (by omega), if_neg (by omega), if_neg (by omega)]; exact hrow.r6
    · rw [if_neg (by omega), if_neg (by omega), if_neg (by omega), if_neg (by omega), if_neg (by omega), if_neg (by omega), if_neg (by omega), if_neg (by omega), if_neg (by omega), if_neg (by omega), if_neg (by omega)]; exact hrow.r7
    · rw [if_neg (by omega), if_neg (by omega), if_neg (by omega), if_neg (by omega), if_neg (by omega), if_neg (by omega), if_neg (by omega), if_neg (by omega), if_neg (by omega), if_neg (by omega), if_neg (by omega)]; exact hrow.r8
    · rw [if_neg (by omega), if_neg (by omega), if_neg (by omega), if_neg (by omega), if_neg (by omega), if_neg (by omega), if_neg (by omega), if_neg (by omega), if_neg (by omega), if_neg (by omega), if_neg (by omega)]; exact hrow.r9
    · rw [if_neg (by omega), if_neg (by omega), if_neg (by omega), if_neg (by omega), if_neg (by omega), if_neg (by omega), if_neg (by omega), if_neg (by omega), if_neg (by omega), if_neg (by omega), if_neg (by omega)]; exact hrow.r10
    · repeat (refine StrsIn.setCell ?_ (by simp only []; omega) _)
      exact hst

theorem FdsFill.done {wr : World} {B : Nat} {Fs : List Fd} {k : Nat} (h : FdsFill wr B Fs k) (hk : Fs.length ≤ k) (hne : Fs ≠ []) (hm : Fs.length ≤ maxLen) : FdsAt B wr (.slice (some ⟨B, 0, none⟩) Fs.length Fs.length) Fs := by
  obtain ⟨f, hr, hall⟩ := h
  refine Or.inr ⟨B, 0, Fs.length, rfl, hne, hm, hr.lt, Nat.le_refl _, Nat.le_refl _, fun i hi => ?_⟩
  obtain ⟨hz, wv, hrow, hst⟩ := hall i hi (by omega)
  refine ⟨hz, wv, ⟨?_, ?_, ?_, ?_, ?_, ?_, ?_, ?_, ?_, ?_, ?_⟩, hst.mono (by omega)⟩
  · rw [Nat.zero_add, hr.cell (by omega), hrow.r0]
  · rw [Nat.zero_add, hr.cell (by omega), hrow.r1]
  · rw [Nat.zero_add, hr.cell (by omega), hrow.r2]
  · rw [Nat.zero_add, hr.cell (by omega), hrow.r3]
  · rw [Nat.zero_add, hr.cell (by omega), hrow.r4]
  · rw [Nat.zero_add, hr.cell (by omega), hrow.r5]
  · rw [Nat.zero_add, hr.cell (by omega), hrow.r6]
  · rw [Nat.zero_add, hr.cell (by omega), hrow.r7]
  · rw [Nat.zero_add, hr.cell (by omega), hrow.r8]
  · rw [Nat.zero_add, hr.cell (by omega), hrow.r9]
  · rw [Nat.zero_add, hr.cell (by omega), hrow.r10]

theorem FdsFill.new (w : World) (Fs : List Fd) (z : Array Value) : FdsFill (w.alloc (.cells (madeCells z (Fs.length * 11)) 157)) w.heap.size Fs 0 := by
  refine ⟨fun i => (madeCells z (Fs.length * 11)).getD i default, ?_, fun i _ h => by omega⟩
  have := World.rowIs_alloc w (madeCells z (Fs.length * 11)) 157 (fun i => (madeCells z (Fs.length * 11)).getD i default) (fun i hi => by simp [Array.getD, hi])
  rwa [size_madeCells] at this

set_option maxHeartbeats 1000000 in
theorem toFds_any (lo : Nat) (v : Value) (Fs : List Fd) (w : World) (hv : FdsAt lo w v Fs) (hn : FdsSmall Fs) :
    Calls Tryz.prog 150 #[v] w fun e w' => ∃ v', e = .returned v' ∧ Below w.heap.size w w' ∧ FdsAt w.heap.size w' v' Fs := by
  obtain ⟨i0, hi, hz0, hz1, hz2⟩ := info_parts Tryz.info157
  by_cases hL : Fs = []
  · subst hL
    obtain ⟨a, cap, rfl⟩ := nil_form hv
    clear hv
    have hmk : ∀ u : World, (Instr.makeSlice 122 (.int .i64 0) (.int .i64 0)).run Tryz.prog u = .ok (.slice (some ⟨u.heap.size, 0, none⟩) 0 0) (u.alloc (.cells (madeCells (Value.cells (.agg #[.string ⟨#[]⟩, .int .i64 0, .int .i64 0, .int .i64 0, .slice none 0 0, .string ⟨#[]⟩, .int .i64 0, .bool false, .bool false, .string ⟨#[]⟩, .string ⟨#[]⟩])) 0) 157)) := fun u => by
      have h := run_make (P := Tryz.prog) u 122 157 i0 _ Tryz.underlying122 hi hz0 .i64 .i64 0 0 (by omega) (by omega) (by omega) (by omega)
      simpa [hz1] using h
    go_enter Tryz.func150, Tryz.ntmps150
    go_wp2
    go_loop [4] (fun i => i = .int .i64 0) (fun _ => 0)
    case atStart => rfl
    case round =>
      subst hrel
      go_wp2
      go_ret
      exact ⟨_, rfl, (Below.refl _ _).alloc (Nat.le_refl _) _, Or.inl ⟨_, _, rfl, rfl⟩⟩
  · obtain ⟨b, off, cap, rfl, hm, hbw, _, hc⟩ := hv.full hL
    clear hv
    obtain ⟨hn1, hn2⟩ := hn
    have HM : Hid (Fs.length ≤ maxLen) := hm
    unfold maxLen at hm
    have hmk : ∀ u : World, (Instr.makeSlice 122 (.int .i64 (Fs.length : Int)) (.int .i64 (Fs.length : Int))).run Tryz.prog u = .ok (.slice (some ⟨u.heap.size, 0, none⟩) Fs.length Fs.length) (u.alloc (.cells (madeCells (Value.cells (.agg #[.string ⟨#[]⟩, .int .i64 0, .int .i64 0, .int .i64 0, .slice none 0 0, .string ⟨#[]⟩, .int .i64 0, .bool false, .bool false, .string ⟨#[]⟩, .string ⟨#[]⟩])) (Fs.length * 11)) 157)) := fun u => by
      have h := run_make (P := Tryz.prog) u 122 157 i0 _ Tryz.underlying122 hi hz0 .i64 .i64 Fs.length Fs.length (by omega) (by omega) (by rw [hz2]; omega) (by omega)
      rw [hz1] at h
      simpa using h
    clear hi hz0 hz1 hz2
    go_enter Tryz.func150, Tryz.ntmps150
    go_wp2
    clear hmk
    go_loopw [4] (fun i wr => ∃ k : Nat, i = .int .i64 k ∧ k ≤ Fs.length ∧ Below w.heap.size w wr ∧ FdsFill wr w.heap.size Fs k) (fun i _ => Fs.length - (intOf i).toNat)
    case atStart => exact ⟨0, rfl, by omega, (Below.refl _ _).alloc (Nat.le_refl _) _, FdsFill.new w Fs _⟩
    case round =>
      obtain ⟨k, rfl, hk, hb, hf⟩ := hrel
      by_cases hlt : k < Fs.length
      · obtain ⟨hsz, wv, hcell, hst⟩ := hc k hlt
        obtain ⟨c0, c1, c2, c3, c4, c5, c6, c7, c8, c9, c10⟩ := hcell.below hb hbw
        clear hcell
        go_wp2_with fail
        refine (toField_any _ _ _ _ _ _ _ _ _ _ _ Fs[k].words _ (hst.at.below hb) (hn2 k hlt)).mono ?_
        rintro e w1 ⟨wv1, rfl, hb1, hs1⟩
        have hf1 := hf.below hb1
        have hs1' : StrsIn (w.heap.size + 1) w1 wv1 Fs[k].words := hs1.mono hf.lt
        have HST := hide (hf1.step hlt hsz hs1')
        have hB : Hid (Below w.heap.size w w1) := hb.trans (hb1.mono hb.size)
        have hfr := hf1.free
        obtain ⟨a1, n1, cap1, rfl⟩ := hs1.form
        obtain ⟨o0, ho0⟩ := hf1.there (k * 11) (by omega)
        obtain ⟨o1, ho1⟩ := hf1.there (k * 11 + 1) (by omega)
        obtain ⟨o2, ho2⟩ := hf1.there (k * 11 + 2) (by omega)
        obtain ⟨o3, ho3⟩ := hf1.there (k * 11 + 3) (by omega)
        obtain ⟨o4, ho4⟩ := hf1.there (k * 11 + 4) (by omega)
        obtain ⟨o5, ho5⟩ := hf1.there (k * 11 + 5) (by omega)
        obtain ⟨o6, ho6⟩ := hf1.there (k * 11 + 6) (by omega)
        obtain ⟨o7, ho7⟩ := hf1.there (k * 11 + 7) (by omega)
        obtain ⟨o8, ho8⟩ := hf1.there (k * 11 + 8) (by omega)
        obtain ⟨o9, ho9⟩ := hf1.there (k * 11 + 9) (by omega)
        obtain ⟨o10, ho10⟩ := hf1.there (k * 11 + 10) (by omega)
        clear hf hf1 hs1 hs1' hb1 hb hst c0 c1 c2 c3 c4 c5 c6 c7 c8 c9 c10
        go_wp2
        go_roundw
        case rel =>
          exact ⟨k + 1, by go_num, by omega, (((((((((((hB.out.setCell (Nat.le_refl _) _).setCell (Nat.le_refl _) _).setCell (Nat.le_refl _) _).setCell (Nat.le_refl _) _).setCell (Nat.le_refl _) _).setCell (Nat.le_refl _) _).setCell (Nat.le_refl _) _).setCell (Nat.le_refl _) _).setCell (Nat.le_refl _) _).setCell (Nat.le_refl _) _).setCell (Nat.le_refl _) _), HST.out⟩
        case measure => simp [intOf]; omega
      · go_wp2
        go_ret
        exact ⟨_, rfl, hb, hf.done (by omega) hL HM.out⟩
end Go.Proofs.YtlnlodleokobeaaGreat

