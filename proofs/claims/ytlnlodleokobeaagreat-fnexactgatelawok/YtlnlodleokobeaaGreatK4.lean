import Derived.Test.YtlnlodleokobeaaGreatK3
import Derived.Test.YtlnlodleokobeaaGreatC2
namespace Go.Proofs.YtlnlodleokobeaaGreat
open Go.RowKit Go.Deep

theorem Filled.own {wr : World} {B : Nat} {L : List ByteArray} {k : Nat} (h : Filled wr B L k) (hk : L.length ≤ k) (hne : L ≠ []) (hm : L.length ≤ maxLen) (hs : ∀ s ∈ L, s.size ≤ maxLen) : StrsOwn B wr.heap.size wr (.slice (some ⟨B, 0, none⟩) L.length L.length) L := by
  refine Or.inr ⟨B, 0, L.length, rfl, hne, hm, World.rowIs.lt h, fun i hi => ?_, hs, Nat.le_refl _, World.rowIs.lt h, fun i => World.rowIs.frozen h _⟩
  rw [Nat.zero_add, World.rowIs.cell h hi]
  unfold fillF
  rw [if_pos (by omega), List.getD_eq_getElem?_getD, List.getElem?_eq_getElem hi]; rfl

set_option maxHeartbeats 400000 in
theorem toStrsO_any (v : Value) (L : List ByteArray) (w : World) (hv : StrsAt w v L) (hn : L.length ≤ 1048576) :
    Calls Tryz.prog 169 #[v] w fun e w' => ∃ v', e = .returned v' ∧ Below w.heap.size w w' ∧ StrsOwn w.heap.size w'.heap.size w' v' L := by
  rcases hv with ⟨a, cap, rfl, rfl⟩ | ⟨b, off, cap, rfl, hne, hm, hbw, hc, hsz⟩
  · have hmk : ∀ u : World, (Instr.makeSlice 120 (.int .i64 0) (.int .i64 0)).run Tryz.prog u = .ok (.slice (some ⟨u.heap.size, 0, none⟩) 0 0) (u.alloc (.cells (madeCells #[.string ⟨#[]⟩] 0) 9)) :=
      fun u => run_make_row' 120 9 (.string ⟨#[]⟩) 16 Tryz.underlying120 Tryz.info9 rfl .i64 .i64 0 (by omega) (by omega) u
    go_enter Tryz.func169, Tryz.ntmps169
    go_wp2
    go_loop [4] (fun i => i = .int .i64 0) (fun _ => 0)
    case atStart => rfl
    case round =>
      subst hrel
      go_wp2
      go_ret
      exact ⟨_, rfl, (Below.refl _ _).alloc (Nat.le_refl _) _, Or.inl ⟨_, _, rfl, rfl⟩⟩
  · have HM : Hid (L.length ≤ maxLen) := hm
    unfold maxLen at hm
    have hmk : ∀ u : World, (Instr.makeSlice 120 (.int .i64 (L.length : Int)) (.int .i64 (L.length : Int))).run Tryz.prog u = .ok (.slice (some ⟨u.heap.size, 0, none⟩) L.length L.length) (u.alloc (.cells (madeCells #[.string ⟨#[]⟩] L.length) 9)) :=
      fun u => run_make_row' 120 9 (.string ⟨#[]⟩) 16 Tryz.underlying120 Tryz.info9 rfl .i64 .i64 L.length (by omega) (by omega) u
    go_enter Tryz.func169, Tryz.ntmps169
    go_wp2
    clear hmk
    go_loopw [4] (fun i wr => ∃ k : Nat, i = .int .i64 k ∧ k ≤ L.length ∧ Below w.heap.size w wr ∧ Filled wr w.heap.size L k) (fun i _ => L.length - (intOf i).toNat)
    case atStart => exact ⟨0, rfl, by omega, (Below.refl _ _).alloc (Nat.le_refl _) _, World.rowIs_made w (.string ⟨#[]⟩) L.length 9⟩
    case round =>
      obtain ⟨k, rfl, hk, hb, hf⟩ := hrel
      by_cases hlt : k < L.length
      · have hck : wr.cell? ⟨b, off + k, none⟩ = some (.string L[k]) := by rw [hb.cell (p := ⟨b, off + k, none⟩) hbw]; exact hc k hlt
        obtain ⟨old, hold⟩ := hf.old hlt
        have hfz := hf.frozen k
        go_wp2
        go_roundw
        case rel => exact ⟨k + 1, by go_num, by omega, hb.setCell (Nat.le_refl _) _, hf.step hlt⟩
        case measure => simp [intOf]; omega
      · go_wp2
        go_ret
        exact ⟨_, rfl, hb, hf.own (by omega) hne HM.out hsz⟩
set_option maxHeartbeats 1000000 in
theorem toFieldO_any (nm to df we : ByteArray) (kd le mo ro : Int) (mu fx : Bool) (wv : Value) (L : List ByteArray) (w : World) (hv : StrsAt w wv L) (hn : L.length ≤ 1048576) :
    Calls Tryz.prog 201 #[.agg #[.string nm, .int .i64 kd, .int .i64 le, .int .i64 mo, wv, .string to, .int .i64 ro, .bool mu, .bool fx, .string df, .string we]] w
      fun e w' => ∃ wv', e = .returned (.agg #[.string nm, .int .i64 kd, .int .i64 le, .int .i64 mo, wv', .string to, .int .i64 ro, .bool mu, .bool fx, .string df, .string we]) ∧ Below w.heap.size w w' ∧ StrsOwn w.heap.size w'.heap.size w' wv' L := by
  have HV : Hid (StrsAt w wv L) := hv
  obtain ⟨a, n, cap, rfl⟩ := hv.form
  clear hv
  go_enter Tryz.func201, Tryz.ntmps201
  go_wp2_with fail
  refine (toStrsO_any _ L _ (HV.out.below ?_) hn).mono ?_
  · exact (((Below.refl _ _).alloc (Nat.le_refl _) _).alloc (by simp) _).alloc (by simp; omega) _
  rintro e w1 ⟨wv', rfl, hb, hs⟩
  obtain ⟨a', cap', rfl⟩ := hs.form
  have HS : Hid (StrsOwn (w.heap.size + 3) w1.heap.size w1 (.slice a' L.length cap') L) := hs.wide (by simp) (Nat.le_refl _)
  clear hs
  have hz : w.heap.size + 2 < w1.heap.size := by have := hb.size; simp at this; omega
  obtain ⟨hc, hf⟩ := bcell hb
  have HB : Hid (Below w.heap.size w w1) := ((((Below.refl _ _).alloc (Nat.le_refl _) _).alloc (by simp) _).alloc (by simp; omega) _).trans (hb.mono (by simp; omega))
  clear hb
  go_wp2
  refine bodyPost_ret (v := .agg #[.string nm, .int .i64 kd, .int .i64 le, .int .i64 mo, .slice a' L.length cap', .string to, .int .i64 ro, .bool mu, .bool fx, .string df, .string we]) (by simp [results, Tryz.results201, go_sem, hc]) rfl ⟨_, rfl, ?_, ?_⟩
  · repeat (refine Below.setCell ?_ (by simp only []; omega) _)
    exact HB.out
  · refine StrsOwn.wide (lo := w.heap.size + 3) (hi := w1.heap.size) ?_ (by omega) (by simp [World.setCell])
    repeat (refine StrsOwn.setCell ?_ (by simp only []; omega) _)
    exact HS.out


theorem Writ.setCell {lo hi : Nat} {w : World} {v : Value} {n : Nat} (h : Writ lo hi w v n) {p : Addr} (hp : p.block < lo) (u : Value) : Writ lo hi (w.setCell p u) v n := by
  rcases h with h | ⟨b, off, cap, h1, h2, h3, h4, h5, h6, h7, h8⟩
  · exact Or.inl h
  · exact Or.inr ⟨b, off, cap, h1, h2, h3, by simpa [World.setCell] using h4, fun i hi' => by rw [cell_setCell_ne _ _ _ _ (by show b ≠ p.block; omega)]; exact h5 i hi', h6, h7, fun i => by rw [World.frozen?_setCell]; exact h8 i⟩

/-- the words of the first k fields may be written -/
def FdOwns (wr : World) (B : Nat) (Fs : List Fd) (k : Nat) : Prop :=
  ∀ i (h : i < Fs.length), i < k → ∃ wv, wr.cell? ⟨B, i * 11 + 4, none⟩ = some wv ∧ Writ (B + 1) wr.heap.size wr wv Fs[i].words.length
theorem FdOwns.below {wr w1 : World} {B : Nat} {Fs : List Fd} {k : Nat} (h : FdOwns wr B Fs k) (hb : Below wr.heap.size wr w1) (hB : B < wr.heap.size) : FdOwns w1 B Fs k := fun i hi hik => by
  obtain ⟨wv, h1, h2⟩ := h i hi hik
  exact ⟨wv, by rw [hb.cell (p := ⟨B, _, none⟩) hB]; exact h1, (h2.kept (Kept.below (lo := 0) (hi := 0) hb)).wide (Nat.le_refl _) hb.size⟩
theorem FdOwns.step {w1 : World} {B : Nat} {Fs : List Fd} {k : Nat} {wv v0 v1 v2 v3 v5 v6 v7 v8 v9 v10 o4 : Value} (h : FdOwns w1 B Fs k) (hk : k < Fs.length) (ho : w1.cell? ⟨B, k * 11 + 4, none⟩ = some o4) (hs : Writ (B + 1) w1.heap.size w1 wv Fs[k].words.length) :
    FdOwns (((((((((((w1.setCell ⟨B, k * 11, none⟩ v0).setCell ⟨B, k * 11 + 1, none⟩ v1).setCell ⟨B, k * 11 + 2, none⟩ v2).setCell ⟨B, k * 11 + 3, none⟩ v3).setCell ⟨B, k * 11 + 4, none⟩ wv).setCell ⟨B, k * 11 + 5, none⟩ v5).setCell ⟨B, k * 11 + 6, none⟩ v6).setCell ⟨B, k * 11 + 7, none⟩ v7).setCell ⟨B, k * 11 + 8, none⟩ v8).setCell ⟨B, k * 11 + 9, none⟩ v9).setCell ⟨B, k * 11 + 10, none⟩ v10) B Fs (k + 1) := by
  have hz : (((((((((((w1.setCell ⟨B, k * 11, none⟩ v0).setCell ⟨B, k * 11 + 1, none⟩ v1).setCell ⟨B, k * 11 + 2, none⟩ v2).setCell ⟨B, k * 11 + 3, none⟩ v3).setCell ⟨B, k * 11 + 4, none⟩ wv).setCell ⟨B, k * 11 + 5, none⟩ v5).setCell ⟨B, k * 11 + 6, none⟩ v6).setCell ⟨B, k * 11 + 7, none⟩ v7).setCell ⟨B, k * 11 + 8, none⟩ v8).setCell ⟨B, k * 11 + 9, none⟩ v9).setCell ⟨B, k * 11 + 10, none⟩ v10).heap.size = w1.heap.size := by simp [World.setCell]
  intro i hi hik
  by_cases e : i = k
  · subst e
    refine ⟨wv, ?_, ?_⟩
    · rw [cell_set_ne0 _ _ _ _ _ (by omega), cell_set_ne0 _ _ _ _ _ (by omega), cell_set_ne0 _ _ _ _ _ (by omega), cell_set_ne0 _ _ _ _ _ (by omega), cell_set_ne0 _ _ _ _ _ (by omega), cell_set_ne0 _ _ _ _ _ (by omega), cell_set_eq _ _ _ _ (by rw [cell_set_ne0 _ _ _ _ _ (by omega), cell_set_ne0 _ _ _ _ _ (by omega), cell_set_ne0 _ _ _ _ _ (by omega), cell_set_ne0 _ _ _ _ _ (by omega)]; exact ho)]
    · rw [hz]
      repeat (refine Writ.setCell ?_ (by simp only []; omega) _)
      exact hs
  · obtain ⟨wv', h1, h2⟩ := h i hi (by omega)
    refine ⟨wv', ?_, ?_⟩
    · rw [cell_set_ne0 _ _ _ _ _ (by omega), cell_set_ne0 _ _ _ _ _ (by omega), cell_set_ne0 _ _ _ _ _ (by omega), cell_set_ne0 _ _ _ _ _ (by omega), cell_set_ne0 _ _ _ _ _ (by omega), cell_set_ne0 _ _ _ _ _ (by omega), cell_set_ne0 _ _ _ _ _ (by omega), cell_set_ne0 _ _ _ _ _ (by omega), cell_set_ne0 _ _ _ _ _ (by omega), cell_set_ne0 _ _ _ _ _ (by omega), cell_set_ne0 _ _ _ _ _ (by omega)]; exact h1
    · rw [hz]
      repeat (refine Writ.setCell ?_ (by simp only []; omega) _)
      exact h2
theorem FdOwns.done {wr : World} {B : Nat} {Fs : List Fd} {k : Nat} (h : FdOwns wr B Fs k) (hf : FdsFill wr B Fs k) (hk : Fs.length ≤ k) (hne : Fs ≠ []) (hm : Fs.length ≤ maxLen) (hn : FdsSmall Fs) : FdsW B wr.heap.size wr (.slice (some ⟨B, 0, none⟩) Fs.length Fs.length) Fs.length := by
  refine Or.inr ⟨B, 0, Fs.length, rfl, List.length_pos_iff.2 hne, hm, Nat.le_refl _, hf.lt, fun i hi => ?_⟩
  obtain ⟨wv, h1, h2⟩ := h i hi (by omega)
  refine ⟨wv, _, ⟨hf.lt, ?_, fun j hj => ?_, by rw [Nat.zero_add]; exact h1, hf.free⟩, h2, hn.2 i hi⟩
  · obtain ⟨v, hv⟩ := hf.there (i * 11) (by omega); rw [Nat.zero_add, hv]; rfl
  · obtain ⟨v, hv⟩ := hf.there (i * 11 + j) (by omega); rw [Nat.zero_add, hv]; rfl

theorem StrsOwn.in {lo hi : Nat} {w : World} {v : Value} {L : List ByteArray} (h : StrsOwn lo hi w v L) : StrsIn lo w v L := by
  rcases h with h | ⟨b, off, cap, h1, h2, h3, h4, h5, h6, h7, _⟩
  · exact Or.inl h
  · exact Or.inr ⟨b, off, cap, h1, h2, h3, h4, h5, h6, h7⟩
set_option maxHeartbeats 1000000 in
theorem toFdsO_any (lo : Nat) (v : Value) (Fs : List Fd) (w : World) (hv : FdsAt lo w v Fs) (hn : FdsSmall Fs) :
    Calls Tryz.prog 150 #[v] w fun e w' => ∃ v', e = .returned v' ∧ Below w.heap.size w w' ∧ FdsAt w.heap.size w' v' Fs ∧ FdsW w.heap.size w'.heap.size w' v' Fs.length := by
  obtain ⟨i0, hi, hz0, hz1, hz2⟩ := info_parts Tryz.info157
  by_cases hL : Fs = []
  · subst hL
    obtain ⟨a, cap, rfl⟩ := nil_form hv
    clear hv
    have hmk : ∀ u : World, (Instr.makeSlice 122 (.int .i64 0) (.int .i64 0)).run Tryz.prog u = .ok (.slice (some ⟨u.heap.size, 0, none⟩) 0 0) (u.alloc (.cells (madeCells (Value.cells (.agg #[.string ⟨#[]⟩, .int .i64 0, .int .i64 0, .int .i64 0, .slice none 0 0, .string ⟨#[]⟩, .int .i64 0, .bool false, .bool false, .string ⟨#[]⟩, .string ⟨#[]⟩])) 0) 157)) := fun u => by
      have h := run_make (P := Tryz.prog) u 122 157 i0 _ Tryz.underlying122 hi hz0 .i64 .i64 0 0 (by omega) (by omega) (by omega) (by omega)
      simpa [hz1] using h
    go_enter Tryz.func150, Tryz.ntmps150
    go_wp2
    go_loop [4] (fun i => i = .int .i64 0) (fun _ => 0)
    case atStart => rfl
    case round =>
      subst hrel
      go_wp2
      go_ret
      exact ⟨_, rfl, (Below.refl _ _).alloc (Nat.le_refl _) _, Or.inl ⟨_, _, rfl, rfl⟩, Or.inl ⟨_, _, rfl, rfl⟩⟩
  · obtain ⟨b, off, cap, rfl, hm, hbw, _, hc⟩ := hv.full hL
    clear hv
    have HN := hide hn
    obtain ⟨hn1, hn2⟩ := hn
    have HM : Hid (Fs.length ≤ maxLen) := hm
    unfold maxLen at hm
    have hmk : ∀ u : World, (Instr.makeSlice 122 (.int .i64 (Fs.length : Int)) (.int .i64 (Fs.length : Int))).run Tryz.prog u = .ok (.slice (some ⟨u.heap.size, 0, none⟩) Fs.length Fs.length) (u.alloc (.cells (madeCells (Value.cells (.agg #[.string ⟨#[]⟩, .int .i64 0, .int .i64 0, .int .i64 0, .slice none 0 0, .string ⟨#[]⟩, .int .i64 0, .bool false, .bool false, .string ⟨#[]⟩, .string ⟨#[]⟩])) (Fs.length * 11)) 157)) := fun u => by
      have h := run_make (P := Tryz.prog) u 122 157 i0 _ Tryz.underlying122 hi hz0 .i64 .i64 Fs.length Fs.length (by omega) (by omega) (by rw [hz2]; omega) (by omega)
      rw [hz1] at h
      simpa using h
    clear hi hz0 hz1 hz2
    go_enter Tryz.func150, Tryz.ntmps150
    go_wp2
    clear hmk
    go_loopw [4] (fun i wr => ∃ k : Nat, i = .int .i64 k ∧ k ≤ Fs.length ∧ Below w.heap.size w wr ∧ FdsFill wr w.heap.size Fs k ∧ FdOwns wr w.heap.size Fs k) (fun i _ => Fs.length - (intOf i).toNat)
    case atStart => exact ⟨0, rfl, by omega, (Below.refl _ _).alloc (Nat.le_refl _) _, FdsFill.new w Fs _, fun i _ h => by omega⟩
    case round =>
      obtain ⟨k, rfl, hk, hb, hf, how⟩ := hrel
      have HOW := hide how
      clear how
      by_cases hlt : k < Fs.length
      · obtain ⟨hsz, wv, hcell, hst⟩ := hc k hlt
        obtain ⟨c0, c1, c2, c3, c4, c5, c6, c7, c8, c9, c10⟩ := hcell.below hb hbw
        clear hcell
        go_wp2_with fail
        refine (toFieldO_any _ _ _ _ _ _ _ _ _ _ _ Fs[k].words _ (hst.at.below hb) (hn2 k hlt)).mono ?_
        rintro e w1 ⟨wv1, rfl, hb1, hs1⟩
        have hf1 := hf.below hb1
        have hs1' : StrsIn (w.heap.size + 1) w1 wv1 Fs[k].words := (hs1.wide hf.lt (Nat.le_refl _)).in
        have HOWN := hide ((hs1.wide hf.lt (Nat.le_refl _)).writ)
        have HOW1 := hide (HOW.out.below hb1 hf.lt)
        have HST := hide (hf1.step hlt hsz hs1')
        have hB : Hid (Below w.heap.size w w1) := hb.trans (hb1.mono hb.size)
        have hfr := hf1.free
        obtain ⟨a1, cap1, rfl⟩ := hs1.form
        obtain ⟨o0, ho0⟩ := hf1.there (k * 11) (by omega)
        obtain ⟨o1, ho1⟩ := hf1.there (k * 11 + 1) (by omega)
        obtain ⟨o2, ho2⟩ := hf1.there (k * 11 + 2) (by omega)
        obtain ⟨o3, ho3⟩ := hf1.there (k * 11 + 3) (by omega)
        obtain ⟨o4, ho4⟩ := hf1.there (k * 11 + 4) (by omega)
        obtain ⟨o5, ho5⟩ := hf1.there (k * 11 + 5) (by omega)
        obtain ⟨o6, ho6⟩ := hf1.there (k * 11 + 6) (by omega)
        obtain ⟨o7, ho7⟩ := hf1.there (k * 11 + 7) (by omega)
        obtain ⟨o8, ho8⟩ := hf1.there (k * 11 + 8) (by omega)
        obtain ⟨o9, ho9⟩ := hf1.there (k * 11 + 9) (by omega)
        obtain ⟨o10, ho10⟩ := hf1.there (k * 11 + 10) (by omega)
        have HSTO := fun x0 x1 x2 x3 x5 x6 x7 x8 x9 x10 => hide (HOW1.out.step (v0 := x0) (v1 := x1) (v2 := x2) (v3 := x3) (v5 := x5) (v6 := x6) (v7 := x7) (v8 := x8) (v9 := x9) (v10 := x10) hlt ho4 HOWN.out)
        clear HOW HOW1 HOWN
        clear hf hf1 hs1 hs1' hb1 hb hst c0 c1 c2 c3 c4 c5 c6 c7 c8 c9 c10
        go_wp2
        go_roundw
        case rel =>
          exact ⟨k + 1, by go_num, by omega, (((((((((((hB.out.setCell (Nat.le_refl _) _).setCell (Nat.le_refl _) _).setCell (Nat.le_refl _) _).setCell (Nat.le_refl _) _).setCell (Nat.le_refl _) _).setCell (Nat.le_refl _) _).setCell (Nat.le_refl _) _).setCell (Nat.le_refl _) _).setCell (Nat.le_refl _) _).setCell (Nat.le_refl _) _).setCell (Nat.le_refl _) _), HST.out, (HSTO _ _ _ _ _ _ _ _ _ _).out⟩
        case measure => simp [intOf]; omega
      · go_wp2
        go_ret
        exact ⟨_, rfl, hb, hf.done (by omega) hL HM.out, HOW.out.done hf (by omega) hL HM.out HN.out⟩
end Go.Proofs.YtlnlodleokobeaaGreat

