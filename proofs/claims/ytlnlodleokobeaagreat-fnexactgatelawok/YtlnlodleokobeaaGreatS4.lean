import Derived.Test.YtlnlodleokobeaaGreatS3
namespace Go.Proofs.YtlnlodleokobeaaGreat
open Go.RowKit Go.Deep

theorem FdCells.setCell {w : World} {b o : Nat} {f : Fd} {wv : Value} (h : FdCells w b o f wv) {p : Addr} (hp : b ≠ p.block) (u : Value) : FdCells (w.setCell p u) b o f wv := by
  have e : ∀ o, (w.setCell p u).cell? ⟨b, o, none⟩ = w.cell? ⟨b, o, none⟩ := fun o => cell_setCell_ne _ _ _ _ hp
  exact ⟨by rw [e]; exact h.c0, by rw [e]; exact h.c1, by rw [e]; exact h.c2, by rw [e]; exact h.c3, by rw [e]; exact h.c4, by rw [e]; exact h.c5, by rw [e]; exact h.c6, by rw [e]; exact h.c7, by rw [e]; exact h.c8, by rw [e]; exact h.c9, by rw [e]; exact h.c10⟩
theorem FdsAt.setCell {lo : Nat} {w : World} {v : Value} {Fs : List Fd} (h : FdsAt lo w v Fs) {p : Addr} (hp : p.block < lo) (u : Value) : FdsAt lo (w.setCell p u) v Fs := by
  rcases h with h | ⟨b, off, cap, h1, h2, h3, h4, h5, h6, h7⟩
  · exact Or.inl h
  · refine Or.inr ⟨b, off, cap, h1, h2, h3, by simpa [World.setCell] using h4, h5, h6, fun i hi => ?_⟩
    obtain ⟨hs, wv, hc, hw⟩ := h7 i hi
    exact ⟨hs, wv, hc.setCell (by omega) u, hw.setCell hp u⟩

set_option maxHeartbeats 1000000 in
theorem toShape_any (lo : Nat) (kind : ByteArray) (v : Value) (Fs : List Fd) (w : World) (hv : FdsAt lo w v Fs) (hn : FdsSmall Fs) :
    Calls Tryz.prog 84 #[.agg #[.string kind, v]] w fun e w' => ∃ v', e = .returned (.agg #[.string kind, v']) ∧ Below w.heap.size w w' ∧ FdsAt w.heap.size w' v' Fs := by
  have HV := hide hv
  obtain ⟨a, cap, rfl⟩ := hv.form
  clear hv
  go_enter Tryz.func84, Tryz.ntmps84
  go_wp2_with fail
  refine (toFds_any lo _ Fs _ (HV.out.below ?_) hn).mono ?_
  · exact (((Below.refl _ _).alloc (Nat.le_refl _) _).alloc (by simp) _).alloc (by simp; omega) _
  rintro e w1 ⟨v1, rfl, hb, hs⟩
  obtain ⟨a', cap', rfl⟩ := hs.form
  have HS : Hid (FdsAt (w.heap.size + 3) w1 (.slice a' Fs.length cap') Fs) := hs.mono (by simp)
  clear hs
  have hz : w.heap.size + 2 < w1.heap.size := by have := hb.size; simp at this; omega
  obtain ⟨hc, hf⟩ := bcell hb
  have HB : Hid (Below w.heap.size w w1) := ((((Below.refl _ _).alloc (Nat.le_refl _) _).alloc (by simp) _).alloc (by simp; omega) _).trans (hb.mono (by simp; omega))
  clear hb
  go_wp2
  refine bodyPost_ret (v := .agg #[.string kind, .slice a' Fs.length cap']) (by simp [results, Tryz.results84, go_sem, hc]) rfl ⟨_, rfl, ?_, ?_⟩
  · repeat (refine Below.setCell ?_ (by simp only []; omega) _)
    exact HB.out
  · refine FdsAt.mono (lo := w.heap.size + 3) ?_ (by omega)
    repeat (refine FdsAt.setCell ?_ (by simp only []; omega) _)
    exact HS.out

def ShsFill (wr : World) (B : Nat) (Ss : List Sh) (k : Nat) : Prop :=
  ∃ f, wr.rowIs B 124 (Ss.length * 2) f ∧ ∀ i (h : i < Ss.length), i < k → Ss[i].kind.size ≤ maxLen ∧ ∃ fv, f (i * 2) = .string Ss[i].kind ∧ f (i * 2 + 1) = fv ∧ FdsAt (B + 1) wr fv Ss[i].fields

theorem ShsFill.below {wr w1 : World} {B : Nat} {Ss : List Sh} {k : Nat} (h : ShsFill wr B Ss k) (hb : Below wr.heap.size wr w1) : ShsFill w1 B Ss k := by
  obtain ⟨f, hr, hall⟩ := h
  refine ⟨f, hr.of_block (hb.block B hr.lt), fun i hi hik => ?_⟩
  obtain ⟨hs, fv, h0, h1, h2⟩ := hall i hi hik
  exact ⟨hs, fv, h0, h1, h2.below hb⟩
theorem ShsFill.free {wr : World} {B : Nat} {Ss : List Sh} {k : Nat} (h : ShsFill wr B Ss k) (i : Nat) : wr.frozen? ⟨B, i, none⟩ = false := by
  obtain ⟨f, hr, _⟩ := h
  exact hr.frozen i
theorem ShsFill.there {wr : World} {B : Nat} {Ss : List Sh} {k : Nat} (h : ShsFill wr B Ss k) (i : Nat) (hi : i < Ss.length * 2) : ∃ v, wr.cell? ⟨B, i, none⟩ = some v := by
  obtain ⟨f, hr, _⟩ := h
  exact ⟨_, hr.cell hi⟩
theorem ShsFill.lt {wr : World} {B : Nat} {Ss : List Sh} {k : Nat} (h : ShsFill wr B Ss k) : B < wr.heap.size := by
  obtain ⟨f, hr, _⟩ := h
  exact hr.lt
theorem ShsFill.step {w1 : World} {B : Nat} {Ss : List Sh} {k : Nat} {fv : Value} (h : ShsFill w1 B Ss k) (hk : k < Ss.length) (hz : Ss[k].kind.size ≤ maxLen) (hs : FdsAt (B + 1) w1 fv Ss[k].fields) :
    ShsFill ((w1.setCell ⟨B, k * 2, none⟩ (.string Ss[k].kind)).setCell ⟨B, k * 2 + 1, none⟩ fv) B Ss (k + 1) := by
  obtain ⟨f, hr, hall⟩ := h
  refine ⟨_, ((hr.set _ _).set _ _), fun i hi hik => ?_⟩
  by_cases e : i = k
  · subst e
    refine ⟨hz, fv, ?_, ?_, ?_⟩
    · simp
    · simp
    · exact (hs.setCell (by simp only []; omega) _).setCell (by simp only []; omega) _
  · obtain ⟨hz', fv', h0, h1, hst⟩ := hall i hi (by omega)
    refine ⟨hz', fv', ?_, ?_, ?_⟩
    · rw [if_neg (by omega), if_neg (by omega)]; exact h0
    · rw [if_neg (by omega), if_neg (by omega)]; exact h1
    · exact (hst.setCell (by simp only []; omega) _).setCell (by simp only []; omega) _
theorem ShsFill.done {wr : World} {B : Nat} {Ss : List Sh} {k : Nat} (h : ShsFill wr B Ss k) (hk : Ss.length ≤ k) (hne : Ss ≠ []) (hm : Ss.length ≤ maxLen) : ShsAt B wr (.slice (some ⟨B, 0, none⟩) Ss.length Ss.length) Ss := by
  obtain ⟨f, hr, hall⟩ := h
  refine Or.inr ⟨B, 0, Ss.length, rfl, hne, hm, hr.lt, Nat.le_refl _, fun i hi => ?_⟩
  obtain ⟨hz, fv, h0, h1, hst⟩ := hall i hi (by omega)
  refine ⟨hz, fv, ?_, ?_, hst.mono (by omega)⟩
  · rw [Nat.zero_add, hr.cell (by omega), h0]
  · rw [Nat.zero_add, hr.cell (by omega), h1]
theorem ShsFill.new (w : World) (Ss : List Sh) (z : Array Value) : ShsFill (w.alloc (.cells (madeCells z (Ss.length * 2)) 124)) w.heap.size Ss 0 := by
  refine ⟨fun i => (madeCells z (Ss.length * 2)).getD i default, ?_, fun i _ h => by omega⟩
  have := World.rowIs_alloc w (madeCells z (Ss.length * 2)) 124 (fun i => (madeCells z (Ss.length * 2)).getD i default) (fun i hi => by simp [Array.getD, hi])
  rwa [size_madeCells] at this

set_option maxHeartbeats 1000000 in
theorem toShs_any (lo : Nat) (v : Value) (Ss : List Sh) (w : World) (hv : ShsAt lo w v Ss) (hn : ShsSmall Ss) :
    Calls Tryz.prog 29 #[v] w fun e w' => ∃ v', e = .returned v' ∧ Below w.heap.size w w' ∧ ShsAt w.heap.size w' v' Ss := by
  obtain ⟨i0, hi, hz0, hz1, hz2⟩ := info_parts Tryz.info124
  by_cases hL : Ss = []
  · subst hL
    obtain ⟨a, cap, rfl⟩ := hv.form
    clear hv
    have hmk : ∀ u : World, (Instr.makeSlice 29 (.int .i64 0) (.int .i64 0)).run Tryz.prog u = .ok (.slice (some ⟨u.heap.size, 0, none⟩) 0 0) (u.alloc (.cells (madeCells (Value.cells (.agg #[.string ⟨#[]⟩, .slice none 0 0])) 0) 124)) := fun u => by
      have h := run_make (P := Tryz.prog) u 29 124 i0 _ Tryz.underlying29 hi hz0 .i64 .i64 0 0 (by omega) (by omega) (by omega) (by omega)
      simpa [hz1] using h
    go_enter Tryz.func29, Tryz.ntmps29
    go_wp2
    go_loop [4] (fun i => i = .int .i64 0) (fun _ => 0)
    case atStart => rfl
    case round =>
      subst hrel
      go_wp2
      go_ret
      exact ⟨_, rfl, (Below.refl _ _).alloc (Nat.le_refl _) _, Or.inl ⟨_, _, rfl, rfl⟩⟩
  · obtain ⟨b, off, cap, rfl, hm, hbw, hc⟩ := hv.full hL
    clear hv
    obtain ⟨hn1, hn2⟩ := hn
    have HM : Hid (Ss.length ≤ maxLen) := hm
    unfold maxLen at hm
    have hmk : ∀ u : World, (Instr.makeSlice 29 (.int .i64 (Ss.length : Int)) (.int .i64 (Ss.length : Int))).run Tryz.prog u = .ok (.slice (some ⟨u.heap.size, 0, none⟩) Ss.length Ss.length) (u.alloc (.cells (madeCells (Value.cells (.agg #[.string ⟨#[]⟩, .slice none 0 0])) (Ss.length * 2)) 124)) := fun u => by
      have h := run_make (P := Tryz.prog) u 29 124 i0 _ Tryz.underlying29 hi hz0 .i64 .i64 Ss.length Ss.length (by omega) (by omega) (by rw [hz2]; omega) (by omega)
      rw [hz1] at h
      simpa using h
    clear hi hz0 hz1 hz2
    go_enter Tryz.func29, Tryz.ntmps29
    go_wp2
    clear hmk
    go_loopw [4] (fun i wr => ∃ k : Nat, i = .int .i64 k ∧ k ≤ Ss.length ∧ Below w.heap.size w wr ∧ ShsFill wr w.heap.size Ss k) (fun i _ => Ss.length - (intOf i).toNat)
    case atStart => exact ⟨0, rfl, by omega, (Below.refl _ _).alloc (Nat.le_refl _) _, ShsFill.new w Ss _⟩
    case round =>
      obtain ⟨k, rfl, hk, hb, hf⟩ := hrel
      by_cases hlt : k < Ss.length
      · obtain ⟨hsz, fv, d0, d1, hst⟩ := hc k hlt
        have c0 : wr.cell? ⟨b, off + k * 2, none⟩ = some (.string Ss[k].kind) := by rw [hb.cell (p := ⟨b, _, none⟩) hbw]; exact d0
        have c1 : wr.cell? ⟨b, off + k * 2 + 1, none⟩ = some fv := by rw [hb.cell (p := ⟨b, _, none⟩) hbw]; exact d1
        clear d0 d1
        go_wp2_with fail
        refine (toShape_any lo _ _ Ss[k].fields _ (hst.below hb) (hn2 k hlt)).mono ?_
        rintro e w1 ⟨wv1, rfl, hb1, hs1⟩
        have hf1 := hf.below hb1
        have hs1' : FdsAt (w.heap.size + 1) w1 wv1 Ss[k].fields := hs1.mono hf.lt
        have HST := hide (hf1.step hlt hsz hs1')
        have hB : Hid (Below w.heap.size w w1) := hb.trans (hb1.mono hb.size)
        have hfr := hf1.free
        obtain ⟨a1, cap1, rfl⟩ := hs1.form
        obtain ⟨o0, ho0⟩ := hf1.there (k * 2) (by omega)
        obtain ⟨o1, ho1⟩ := hf1.there (k * 2 + 1) (by omega)
        clear hf hf1 hs1 hs1' hb1 hb hst c0 c1
        go_wp2
        go_roundw
        case rel =>
          exact ⟨k + 1, by go_num, by omega, ((hB.out.setCell (Nat.le_refl _) _).setCell (Nat.le_refl _) _), HST.out⟩
        case measure => simp [intOf]; omega
      · go_wp2
        go_ret
        exact ⟨_, rfl, hb, hf.done (by omega) hL HM.out⟩
end Go.Proofs.YtlnlodleokobeaaGreat

