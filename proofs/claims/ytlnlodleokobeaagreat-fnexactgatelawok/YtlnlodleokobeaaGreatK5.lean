import Derived.Test.YtlnlodleokobeaaGreatK4
namespace Go.Proofs.YtlnlodleokobeaaGreat
open Go.RowKit Go.Deep

theorem FdsW.wide {lo hi lo' hi' : Nat} {w : World} {v : Value} {n : Nat} (h : FdsW lo hi w v n) (h1 : lo' ≤ lo) (h2 : hi ≤ hi') : FdsW lo' hi' w v n := by
  rcases h with h | ⟨b, off, cap, q1, q2, q3, q4, q5, q6⟩
  · exact Or.inl h
  · refine Or.inr ⟨b, off, cap, q1, q2, q3, by omega, by omega, fun i hi' => ?_⟩
    obtain ⟨wv, m, hs, hw, hm⟩ := q6 i hi'
    exact ⟨wv, m, hs, hw.wide (Nat.le_refl _) h2, hm⟩
theorem FdsW.setCell {lo hi : Nat} {w : World} {v : Value} {n : Nat} (h : FdsW lo hi w v n) {p : Addr} (hp : p.block < lo) (u : Value) : FdsW lo hi (w.setCell p u) v n := by
  rcases h with h | ⟨b, off, cap, q1, q2, q3, q4, q5, q6⟩
  · exact Or.inl h
  · refine Or.inr ⟨b, off, cap, q1, q2, q3, q4, q5, fun i hi' => ?_⟩
    obtain ⟨wv, m, hs, hw, hm⟩ := q6 i hi'
    have e : ∀ o, (w.setCell p u).cell? ⟨b, o, none⟩ = w.cell? ⟨b, o, none⟩ := fun o => cell_setCell_ne _ _ _ _ (by show b ≠ p.block; omega)
    exact ⟨wv, m, ⟨by simpa [World.setCell] using hs.lt, by rw [e]; exact hs.c0, fun j hj => by rw [e]; exact hs.cj j hj, by rw [e]; exact hs.four, fun i => by rw [World.frozen?_setCell]; exact hs.fr i⟩, hw.setCell (by omega) u, hm⟩

set_option maxHeartbeats 1000000 in
theorem toShapeO_any (lo : Nat) (kind : ByteArray) (v : Value) (Fs : List Fd) (w : World) (hv : FdsAt lo w v Fs) (hn : FdsSmall Fs) :
    Calls Tryz.prog 84 #[.agg #[.string kind, v]] w fun e w' => ∃ v', e = .returned (.agg #[.string kind, v']) ∧ Below w.heap.size w w' ∧ FdsAt w.heap.size w' v' Fs ∧ FdsW w.heap.size w'.heap.size w' v' Fs.length := by
  have HV := hide hv
  obtain ⟨a, cap, rfl⟩ := hv.form
  clear hv
  go_enter Tryz.func84, Tryz.ntmps84
  go_wp2_with fail
  refine (toFdsO_any lo _ Fs _ (HV.out.below ?_) hn).mono ?_
  · exact (((Below.refl _ _).alloc (Nat.le_refl _) _).alloc (by simp) _).alloc (by simp; omega) _
  rintro e w1 ⟨v1, rfl, hb, hs, hq⟩
  obtain ⟨a', cap', rfl⟩ := hs.form
  have HS : Hid (FdsAt (w.heap.size + 3) w1 (.slice a' Fs.length cap') Fs) := hs.mono (by simp)
  have HQ : Hid (FdsW (w.heap.size + 3) w1.heap.size w1 (.slice a' Fs.length cap') Fs.length) := hq.wide (by simp) (Nat.le_refl _)
  clear hs hq
  have hz : w.heap.size + 2 < w1.heap.size := by have := hb.size; simp at this; omega
  obtain ⟨hc, hf⟩ := bcell hb
  have HB : Hid (Below w.heap.size w w1) := ((((Below.refl _ _).alloc (Nat.le_refl _) _).alloc (by simp) _).alloc (by simp; omega) _).trans (hb.mono (by simp; omega))
  clear hb
  go_wp2
  refine bodyPost_ret (v := .agg #[.string kind, .slice a' Fs.length cap']) (by simp [results, Tryz.results84, go_sem, hc]) rfl ⟨_, rfl, ?_, ?_, ?_⟩
  · repeat (refine Below.setCell ?_ (by simp only []; omega) _)
    exact HB.out
  · refine FdsAt.mono (lo := w.heap.size + 3) ?_ (by omega)
    repeat (refine FdsAt.setCell ?_ (by simp only []; omega) _)
    exact HS.out
  · refine FdsW.wide (lo := w.heap.size + 3) (hi := w1.heap.size) ?_ (by omega) (by simp [World.setCell])
    repeat (refine FdsW.setCell ?_ (by simp only []; omega) _)
    exact HQ.out

/-- the first k shapes may be written, each in a stretch of its own -/
def ShOwns (wr : World) (B : Nat) (Ss : List Sh) (k : Nat) : Prop :=
  ∃ m : Nat → Nat, B < m 0 ∧ (∀ i j, i ≤ j → m i ≤ m j) ∧ (∀ i, m i ≤ wr.heap.size) ∧ ∀ i (h : i < Ss.length), i < k → ∃ fv, wr.cell? ⟨B, i * 2 + 1, none⟩ = some fv ∧ FdsW (m i) (m (i + 1)) wr fv Ss[i].fields.length
theorem ShOwns.below {wr w1 : World} {B : Nat} {Ss : List Sh} {k : Nat} (h : ShOwns wr B Ss k) (hb : Below wr.heap.size wr w1) (hB : B < wr.heap.size) : ShOwns w1 B Ss k := by
  obtain ⟨m, h1, h2, h3, h4⟩ := h
  refine ⟨m, h1, h2, fun i => Nat.le_trans (h3 i) hb.size, fun i hi hik => ?_⟩
  obtain ⟨fv, q1, q2⟩ := h4 i hi hik
  exact ⟨fv, by rw [hb.cell (p := ⟨B, _, none⟩) hB]; exact q1, q2.kept (Kept.below (lo := m (i + 1)) (hi := 0) hb) (Or.inl (Nat.le_refl _))⟩
theorem ShOwns.step {wr w1 : World} {B : Nat} {Ss : List Sh} {k : Nat} {fv v0 o1 : Value} (h : ShOwns wr B Ss k) (hb : Below wr.heap.size wr w1) (hB : B < wr.heap.size) (hk : k < Ss.length) (ho : w1.cell? ⟨B, k * 2 + 1, none⟩ = some o1) (hs : FdsW wr.heap.size w1.heap.size w1 fv Ss[k].fields.length) :
    ShOwns ((w1.setCell ⟨B, k * 2, none⟩ v0).setCell ⟨B, k * 2 + 1, none⟩ fv) B Ss (k + 1) := by
  obtain ⟨m, h1, h2, h3, h4⟩ := h
  have hz : ((w1.setCell ⟨B, k * 2, none⟩ v0).setCell ⟨B, k * 2 + 1, none⟩ fv).heap.size = w1.heap.size := by simp [World.setCell]
  refine ⟨fun i => if i ≤ k then m i else w1.heap.size, by simpa using h1, fun i j hij => ?_, fun i => ?_, fun i hi hik => ?_⟩
  · simp only []
    by_cases a1 : i ≤ k
    · rw [if_pos a1]
      by_cases a2 : j ≤ k
      · rw [if_pos a2]; exact h2 i j hij
      · rw [if_neg a2]; exact Nat.le_trans (h3 i) hb.size
    · rw [if_neg a1, if_neg (by omega)]; exact Nat.le_refl _
  · simp only []
    rw [hz]
    by_cases a1 : i ≤ k
    · rw [if_pos a1]; exact Nat.le_trans (h3 i) hb.size
    · rw [if_neg a1]; exact Nat.le_refl _
  · simp only []
    have hm0 : ∀ i, m 0 ≤ m i := fun i => h2 0 i (Nat.zero_le _)
    by_cases e : i = k
    · subst e
      refine ⟨fv, ?_, ?_⟩
      · rw [cell_set_eq _ _ _ _ (by rw [cell_set_ne0 _ _ _ _ _ (by omega)]; exact ho)]
      · rw [if_pos (Nat.le_refl _), if_neg (by omega)]
        exact ((hs.wide (h3 i) (Nat.le_refl _)).setCell (by have := hm0 i; simp only []; omega) _).setCell (by have := hm0 i; simp only []; omega) _
    · obtain ⟨fv', q1, q2⟩ := h4 i hi (by omega)
      refine ⟨fv', ?_, ?_⟩
      · rw [cell_set_ne0 _ _ _ _ _ (by omega), cell_set_ne0 _ _ _ _ _ (by omega), hb.cell (p := ⟨B, _, none⟩) hB]; exact q1
      · rw [if_pos (by omega), if_pos (by omega)]
        exact ((q2.kept (Kept.below (lo := m (i + 1)) (hi := 0) hb) (Or.inl (Nat.le_refl _))).setCell (by have := hm0 i; simp only []; omega) _).setCell (by have := hm0 i; simp only []; omega) _
theorem ShOwns.done {wr : World} {B : Nat} {Ss : List Sh} {k : Nat} (h : ShOwns wr B Ss k) (hf : ShsFill wr B Ss k) (hk : Ss.length ≤ k) (hne : Ss ≠ []) (hm : Ss.length ≤ maxLen) (hn : ShsSmall Ss) : ShsW B wr.heap.size wr (.slice (some ⟨B, 0, none⟩) Ss.length Ss.length) Ss.length := by
  obtain ⟨m, h1, h2, h3, h4⟩ := h
  refine Or.inr ⟨B, 0, Ss.length, m, rfl, List.length_pos_iff.2 hne, hm, Nat.le_refl _, hf.lt, h1, h2, h3 _, fun i hi _ => ?_⟩
  obtain ⟨fv, q1, q2⟩ := h4 i hi (by omega)
  refine ⟨fv, _, ⟨hf.lt, ?_, by rw [Nat.zero_add]; exact q1, hf.free⟩, q2, (hn.2 i hi).1⟩
  obtain ⟨v, hv⟩ := hf.there (i * 2) (by omega); rw [Nat.zero_add, hv]; rfl

set_option maxHeartbeats 1000000 in
theorem toShsO_any (lo : Nat) (v : Value) (Ss : List Sh) (w : World) (hv : ShsAt lo w v Ss) (hn : ShsSmall Ss) :
    Calls Tryz.prog 29 #[v] w fun e w' => ∃ v', e = .returned v' ∧ Below w.heap.size w w' ∧ ShsAt w.heap.size w' v' Ss ∧ ShsW w.heap.size w'.heap.size w' v' Ss.length := by
  obtain ⟨i0, hi, hz0, hz1, hz2⟩ := info_parts Tryz.info124
  by_cases hL : Ss = []
  · subst hL
    obtain ⟨a, cap, rfl⟩ := hv.form
    clear hv
    have hmk : ∀ u : World, (Instr.makeSlice 29 (.int .i64 0) (.int .i64 0)).run Tryz.prog u = .ok (.slice (some ⟨u.heap.size, 0, none⟩) 0 0) (u.alloc (.cells (madeCells (Value.cells (.agg #[.string ⟨#[]⟩, .slice none 0 0])) 0) 124)) := fun u => by
      have h := run_make (P := Tryz.prog) u 29 124 i0 _ Tryz.underlying29 hi hz0 .i64 .i64 0 0 (by omega) (by omega) (by omega) (by omega)
      simpa [hz1] using h
    go_enter Tryz.func29, Tryz.ntmps29
    go_wp2
    go_loop [4] (fun i => i = .int .i64 0) (fun _ => 0)
    case atStart => rfl
    case round =>
      subst hrel
      go_wp2
      go_ret
      exact ⟨_, rfl, (Below.refl _ _).alloc (Nat.le_refl _) _, Or.inl ⟨_, _, rfl, rfl⟩, Or.inl ⟨_, _, rfl, rfl⟩⟩
  · obtain ⟨b, off, cap, rfl, hm, hbw, hc⟩ := hv.full hL
    clear hv
    have HN := hide hn
    obtain ⟨hn1, hn2⟩ := hn
    have HM : Hid (Ss.length ≤ maxLen) := hm
    unfold maxLen at hm
    have hmk : ∀ u : World, (Instr.makeSlice 29 (.int .i64 (Ss.length : Int)) (.int .i64 (Ss.length : Int))).run Tryz.prog u = .ok (.slice (some ⟨u.heap.size, 0, none⟩) Ss.length Ss.length) (u.alloc (.cells (madeCells (Value.cells (.agg #[.string ⟨#[]⟩, .slice none 0 0])) (Ss.length * 2)) 124)) := fun u => by
      have h := run_make (P := Tryz.prog) u 29 124 i0 _ Tryz.underlying29 hi hz0 .i64 .i64 Ss.length Ss.length (by omega) (by omega) (by rw [hz2]; omega) (by omega)
      rw [hz1] at h
      simpa using h
    clear hi hz0 hz1 hz2
    go_enter Tryz.func29, Tryz.ntmps29
    go_wp2
    clear hmk
    go_loopw [4] (fun i wr => ∃ k : Nat, i = .int .i64 k ∧ k ≤ Ss.length ∧ Below w.heap.size w wr ∧ ShsFill wr w.heap.size Ss k ∧ ShOwns wr w.heap.size Ss k) (fun i _ => Ss.length - (intOf i).toNat)
    case atStart => exact ⟨0, rfl, by omega, (Below.refl _ _).alloc (Nat.le_refl _) _, ShsFill.new w Ss _, fun _ => w.heap.size + 1, Nat.lt_succ_self _, fun _ _ _ => Nat.le_refl _, fun _ => by simp, fun i _ h => by omega⟩
    case round =>
      obtain ⟨k, rfl, hk, hb, hf, how⟩ := hrel
      have HOW := hide how
      clear how
      by_cases hlt : k < Ss.length
      · obtain ⟨hsz, fv, d0, d1, hst⟩ := hc k hlt
        have c0 : wr.cell? ⟨b, off + k * 2, none⟩ = some (.string Ss[k].kind) := by rw [hb.cell (p := ⟨b, _, none⟩) hbw]; exact d0
        have c1 : wr.cell? ⟨b, off + k * 2 + 1, none⟩ = some fv := by rw [hb.cell (p := ⟨b, _, none⟩) hbw]; exact d1
        clear d0 d1
        go_wp2_with fail
        refine (toShapeO_any lo _ _ Ss[k].fields _ (hst.below hb) (hn2 k hlt)).mono ?_
        rintro e w1 ⟨wv1, rfl, hb1, hs1, hq1⟩
        have hlt0 := hf.lt
        have hf1 := hf.below hb1
        have hs1' : FdsAt (w.heap.size + 1) w1 wv1 Ss[k].fields := hs1.mono hf.lt
        have HST := hide (hf1.step hlt hsz hs1')
        have hB : Hid (Below w.heap.size w w1) := hb.trans (hb1.mono hb.size)
        have hfr := hf1.free
        obtain ⟨a1, cap1, rfl⟩ := hs1.form
        obtain ⟨o0, ho0⟩ := hf1.there (k * 2) (by omega)
        obtain ⟨o1, ho1⟩ := hf1.there (k * 2 + 1) (by omega)
        have HSTO := fun x0 => hide (HOW.out.step (v0 := x0) hb1 hlt0 hlt ho1 hq1)
        clear HOW hq1 hlt0
        clear hf hf1 hs1 hs1' hb1 hb hst c0 c1
        go_wp2
        go_roundw
        case rel =>
          exact ⟨k + 1, by go_num, by omega, ((hB.out.setCell (Nat.le_refl _) _).setCell (Nat.le_refl _) _), HST.out, (HSTO _).out⟩
        case measure => simp [intOf]; omega
      · go_wp2
        go_ret
        exact ⟨_, rfl, hb, hf.done (by omega) hL HM.out, HOW.out.done hf (by omega) hL HM.out HN.out⟩

section
variable (kind nm team : ByteArray) (vv hv : Value) (en : Bool) (ver : Int) (V Ho : List ByteArray) (w : World)

set_option maxHeartbeats 1000000 in
theorem toObjO_any (hV : StrsAt w vv V) (hH : StrsAt w hv Ho) (n1 : V.length ≤ 1048576) (n2 : Ho.length ≤ 1048576) :
    Calls Tryz.prog 109 #[.agg #[.string kind, .string nm, .string team, vv, .bool en, hv, .int .i64 ver]] w
      fun e w' => ∃ v' h', e = .returned (.agg #[.string kind, .string nm, .string team, v', .bool en, h', .int .i64 ver]) ∧ Below w.heap.size w w' ∧ ObjOwn w.heap.size w' v' h' V Ho := by
  have HV := hide hV
  have HH := hide hH
  obtain ⟨a, n, cap, rfl⟩ := hV.form
  obtain ⟨a', n', cap', rfl⟩ := hH.form
  clear hV hH
  have HW : ∀ o o' o'', Hid (Below w.heap.size w (((w.alloc o).alloc o').alloc o'')) := fun o o' o'' => (((Below.refl _ _).alloc (Nat.le_refl _) _).alloc (by simp) _).alloc (by simp; omega) _
  go_enter Tryz.func109, Tryz.ntmps109
  go_wp2_with fail
  refine (toStrsO_any _ V _ (HV.out.below (HW _ _ _).out) n1).mono ?_
  rintro e w1 ⟨v1, rfl, hb, hs⟩
  obtain ⟨a1, cap1, rfl⟩ := hs.form
  have HS : Hid (StrsOwn (w.heap.size + 3) w1.heap.size w1 (.slice a1 V.length cap1) V) := hs.wide (by simp) (Nat.le_refl _)
  have hz : w.heap.size + 2 < w1.heap.size := by have := hb.size; simp at this; omega
  obtain ⟨hc, hf⟩ := bcell hb
  have HB : Hid (Below w.heap.size w w1) := (HW _ _ _).out.trans (hb.mono (by simp; omega))
  clear hb hs
  go_wp2_with fail
  have hX : Hid (Below w.heap.size w ((w1.setCell ⟨w.heap.size + 1 + 1, 3, none⟩ (.slice a1 V.length cap1)).setCell ⟨w.heap.size + 1 + 1, 4, none⟩ (.bool en))) := (HB.out.setCell (by simp only []; omega) _).setCell (by simp only []; omega) _
  have hXs : ((w1.setCell ⟨w.heap.size + 1 + 1, 3, none⟩ (.slice a1 V.length cap1)).setCell ⟨w.heap.size + 1 + 1, 4, none⟩ (.bool en)).heap.size = w1.heap.size := by simp [World.setCell]
  have HS' := hide ((HS.out.setCell (p := ⟨w.heap.size + 1 + 1, 3, none⟩) (by simp only []; omega) (.slice a1 V.length cap1)).setCell (p := ⟨w.heap.size + 1 + 1, 4, none⟩) (by simp only []; omega) (.bool en))
  refine (toStrsO_any _ Ho _ (HH.out.below hX.out) n2).mono ?_
  rintro e w2 ⟨v2, rfl, hb2, hs2⟩
  obtain ⟨a2, cap2, rfl⟩ := hs2.form
  have HS2 : Hid (StrsOwn (w.heap.size + 3) w1.heap.size w2 (.slice a1 V.length cap1) V) := HS'.out.below hb2
  have HH2 : Hid (StrsOwn w1.heap.size w2.heap.size w2 (.slice a2 Ho.length cap2) Ho) := by unfold Hid; rw [← hXs]; exact hs2
  have hz2 : w.heap.size + 2 < w2.heap.size := by have := hb2.size; rw [hXs] at this; omega
  have hz3 : w1.heap.size ≤ w2.heap.size := by have := hb2.size; rw [hXs] at this; exact this
  have HB2 : Hid (Below w.heap.size w w2) := hX.out.trans (hb2.mono hX.out.size)
  have hc2 : ∀ b o, b < w1.heap.size → w2.cell? ⟨b, o, none⟩ = ((w1.setCell ⟨w.heap.size + 1 + 1, 3, none⟩ (.slice a1 V.length cap1)).setCell ⟨w.heap.size + 1 + 1, 4, none⟩ (.bool en)).cell? ⟨b, o, none⟩ := fun b o h => hb2.cell (p := ⟨b, o, none⟩) (by rw [hXs]; exact h)
  have hf2 : ∀ b o, b < w1.heap.size → w2.frozen? ⟨b, o, none⟩ = ((w1.setCell ⟨w.heap.size + 1 + 1, 3, none⟩ (.slice a1 V.length cap1)).setCell ⟨w.heap.size + 1 + 1, 4, none⟩ (.bool en)).frozen? ⟨b, o, none⟩ := fun b o h => hb2.frozen (p := ⟨b, o, none⟩) (by rw [hXs]; exact h)
  clear hb2 hs2 hXs
  have hz0 : w.heap.size < w1.heap.size := by omega
  have hz1 : w.heap.size + 1 < w1.heap.size := by omega
  have hz1' : w.heap.size + 1 + 1 < w1.heap.size := by omega
  go_wp2
  refine bodyPost_ret (v := .agg #[.string kind, .string nm, .string team, .slice a1 V.length cap1, .bool en, .slice a2 Ho.length cap2, .int .i64 ver]) (by simp [results, Tryz.results109, go_sem, hc, hc2, hz1]) rfl ⟨_, _, rfl, ?_, w1.heap.size, by omega, by simp only [World.setCell, Array.size_modify]; exact hz3, ?_, ?_⟩
  · repeat (refine Below.setCell ?_ (by simp only []; omega) _)
    exact HB2.out
  · refine StrsOwn.wide (lo := w.heap.size + 3) (hi := w1.heap.size) ?_ (by omega) (Nat.le_refl _)
    repeat (refine StrsOwn.setCell ?_ (by simp only []; omega) _)
    exact HS2.out
  · refine StrsOwn.wide (lo := w1.heap.size) (hi := w2.heap.size) ?_ (Nat.le_refl _) (by simp [World.setCell])
    repeat (refine StrsOwn.setCell ?_ (by simp only []; omega) _)
    exact HH2.out
end
end Go.Proofs.YtlnlodleokobeaaGreat

