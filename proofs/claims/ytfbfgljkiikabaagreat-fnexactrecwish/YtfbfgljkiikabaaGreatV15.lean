import Derived.Test.YtfbfgljkiikabaaGreatV14
namespace Go.Proofs.YtfbfgljkiikabaaGreat
open Go.RowKit Go.Deep

theorem RasAt.full {lo : Nat} {w : World} {v : Value} {Xl : List Ra} (h : RasAt lo w v Xl) (hne : Xl ≠ []) : ∃ (b off cap : Nat), v = .slice (some ⟨b, off, none⟩) Xl.length cap ∧ Xl.length ≤ maxLen ∧ b < w.heap.size ∧ Xl.length ≤ cap ∧
    ∀ i (h : i < Xl.length), RaSize Xl[i] ∧ ∃ vv0, RaCells w b (off + i * 2) Xl[i] vv0 ∧ RisAt lo w vv0 Xl[i].fr := by
  rcases h with ⟨_, _, _, h⟩ | ⟨b, off, cap, h1, _, h3, h4, _, h6, h7⟩
  · exact absurd h hne
  · refine ⟨b, off, cap, h1, h3, h4, h6, fun i hi => ?_⟩
    obtain ⟨cs, hr, a0, k0, rfl, hf⟩ := h7 i hi
    exact ⟨rfl, .slice a0 Xl[i].fr.length k0, ⟨hr 0 _ rfl, hr 1 _ rfl⟩, hf.l0⟩
def RasFillO (wr : World) (B : Nat) (Xl : List Ra) (k : Nat) (c : Nat → Nat) : Prop :=
  B < c 0 ∧ (∀ i, i < k → c i ≤ c (i + 1)) ∧ c k ≤ wr.heap.size ∧ ∃ f, wr.rowIs B 112 (Xl.length * 2) f ∧ ∀ i (h : i < Xl.length), i < k → RaSize Xl[i] ∧ ∃ (vv0 : Value), (c i) ≤ (c (i + 1)) ∧ f (i * 2) = .int .i64 Xl[i].ix ∧ f (i * 2 + 1) = vv0 ∧ RisOwn (c i) (c (i + 1)) wr vv0 Xl[i].fr
theorem RasFillO.le {wr : World} {B : Nat} {Xl : List Ra} {k : Nat} {c : Nat → Nat} (h : RasFillO wr B Xl k c) {i : Nat} : ∀ {j : Nat}, i ≤ j → j ≤ k → c i ≤ c j := by
  intro j
  induction j with
  | zero => intro hij _; have : i = 0 := by omega
            subst this; exact Nat.le_refl _
  | succ j ih =>
    intro hij hjn
    by_cases e : i = j + 1
    · subst e; exact Nat.le_refl _
    · exact Nat.le_trans (ih (by omega) (by omega)) (h.2.1 j (by omega))
theorem RasFillO.below {wr w1 : World} {B : Nat} {Xl : List Ra} {k : Nat} {c : Nat → Nat} (h : RasFillO wr B Xl k c) (hb : Below wr.heap.size wr w1) : RasFillO w1 B Xl k c := by
  obtain ⟨g1, g2, g3, f, hr, hall⟩ := h
  refine ⟨g1, g2, Nat.le_trans g3 hb.size, f, hr.of_block (hb.block B hr.lt), fun i hi hik => ?_⟩
  obtain ⟨hz, vv0, q0, h0, h1, l0⟩ := hall i hi hik
  exact ⟨hz, vv0, q0, h0, h1, l0.below hb⟩
theorem RasFillO.free {wr : World} {B : Nat} {Xl : List Ra} {k : Nat} {c : Nat → Nat} (h : RasFillO wr B Xl k c) (i : Nat) : wr.frozen? ⟨B, i, none⟩ = false := by
  obtain ⟨_, _, _, f, hr, _⟩ := h
  exact hr.frozen i
theorem RasFillO.there {wr : World} {B : Nat} {Xl : List Ra} {k : Nat} {c : Nat → Nat} (h : RasFillO wr B Xl k c) (i : Nat) (hi : i < Xl.length * 2) : ∃ v, wr.cell? ⟨B, i, none⟩ = some v := by
  obtain ⟨_, _, _, f, hr, _⟩ := h
  exact ⟨_, hr.cell hi⟩
theorem RasFillO.lt {wr : World} {B : Nat} {Xl : List Ra} {k : Nat} {c : Nat → Nat} (h : RasFillO wr B Xl k c) : B < wr.heap.size := by
  obtain ⟨_, _, _, f, hr, _⟩ := h
  exact hr.lt
theorem RasFillO.step {w1 : World} {B : Nat} {Xl : List Ra} {k : Nat} {c : Nat → Nat} {vv0 : Value} (h : RasFillO w1 B Xl k c) (hk : k < Xl.length) (hz : RaSize Xl[k]) (d : Nat) (hd0 : c k ≤ d) (hd : d ≤ w1.heap.size) (r0 : (c k) ≤ d) (e0 : RisOwn (c k) d w1 vv0 Xl[k].fr) :
    RasFillO ((w1.setCell ⟨B, k * 2, none⟩ (.int .i64 Xl[k].ix)).setCell ⟨B, k * 2 + 1, none⟩ (vv0)) B Xl (k + 1) (fun j => if j ≤ k then c j else d) := by
  have hle := fun i (hi : i ≤ k) => h.le (i := 0) (j := i) (Nat.zero_le _) hi
  have hle2 := fun i (hi : i < k) => h.le (i := i + 1) (j := k) (by omega) (Nat.le_refl _)
  obtain ⟨g1, g2, g3, f, hr, hall⟩ := h
  have hts : Touch B (B + 1) w1 ((w1.setCell ⟨B, k * 2, none⟩ (.int .i64 Xl[k].ix)).setCell ⟨B, k * 2 + 1, none⟩ (vv0)) := (Touch.setB B _ _ _).trans (Touch.setB B _ _ _)
  refine ⟨by simpa using g1, fun i hi => ?_, ?_, _, ((hr.set _ _).set _ _), fun i hi hik => ?_⟩
  · dsimp only
    by_cases e : i = k
    · subst e; rw [if_pos (Nat.le_refl _), if_neg (by omega)]; exact hd0
    · rw [if_pos (by omega), if_pos (by omega)]; exact g2 i (by omega)
  · dsimp only; rw [if_neg (by omega)]; exact Nat.le_trans hd hts.size
  by_cases e : i = k
  · subst e
    dsimp only
    rw [if_pos (Nat.le_refl _), if_neg (by omega)]
    have hb0 := hle i (Nat.le_refl _)
    exact ⟨hz, vv0, r0, by simp, by simp, e0.touch hts (by omega)⟩
  · dsimp only
    rw [if_pos (by omega), if_pos (by omega)]
    have hb0 := hle i (by omega)
    obtain ⟨hz, vv0, q0, h0, h1, l0⟩ := hall i hi (by omega)
    refine ⟨hz, vv0, q0, ?_, ?_, l0.touch hts (by omega)⟩
    · rw [if_neg (by omega), if_neg (by omega)]; exact h0
    · rw [if_neg (by omega), if_neg (by omega)]; exact h1
theorem RasFillO.own {wr : World} {B : Nat} {Xl : List Ra} {k : Nat} {c : Nat → Nat} (h : RasFillO wr B Xl k c) (hk : k = Xl.length) (hne : Xl ≠ []) (hm : Xl.length ≤ maxLen) : RasOwn B wr.heap.size wr (.slice (some ⟨B, 0, none⟩) Xl.length Xl.length) Xl := by
  subst hk
  have hle := fun i (hi : i ≤ Xl.length) => h.le (i := 0) (j := i) (Nat.zero_le _) hi
  have hle2 := fun i (hi : i < Xl.length) => h.le (i := i + 1) (j := Xl.length) (by omega) (Nat.le_refl _)
  have hle3 := fun i j (hi : i < j) (hj : j < Xl.length) => h.le (i := i + 1) (j := j) (by omega) (by omega)
  obtain ⟨g1, g2, g3, f, hr, hall⟩ := h
  have h0 : 0 < Xl.length := List.length_pos_iff.2 hne
  refine Or.inr ⟨B, 0, Xl.length, fun i => (c i, c (i + 1)), fun i => if h : i < Xl.length then Xl[i] else Xl[0], rfl, hne, hm, Nat.le_refl _, fun i hi => by simp [hi], hr.lt, Nat.le_refl _, hr.lt, fun i hi => ⟨by have := hle i (by omega); simp only []; omega, by have := hle2 i hi; simp only []; omega, Or.inl (by have := hle i (by omega); simp only []; omega)⟩, fun i j hi hj hne => by
    rcases Nat.lt_or_ge i j with h | h
    · exact Or.inl (hle3 i j h hj)
    · exact Or.inr (hle3 j i (by omega) hi), fun i => hr.frozen i, fun i hi => ?_⟩
  obtain ⟨hz, vv0, q0, h0, h1, l0⟩ := hall i hi hi
  simp only [hi, dif_pos]
  rw [Nat.zero_add]
  exact ⟨hz, vv0, q0, ⟨by rw [hr.cell (by omega), h0], by rw [hr.cell (by omega), h1]⟩, l0⟩
theorem RasFillO.new (w : World) (Xl : List Ra) (z : Array Value) : RasFillO (w.alloc (.cells (madeCells z (Xl.length * 2)) 112)) w.heap.size Xl 0 (fun _ => w.heap.size + 1) := by
  refine ⟨Nat.lt_succ_self _, fun i hi => by omega, by simp, fun i => (madeCells z (Xl.length * 2)).getD i default, ?_, fun i _ h => by omega⟩
  have := World.rowIs_alloc w (madeCells z (Xl.length * 2)) 112 (fun i => (madeCells z (Xl.length * 2)).getD i default) (fun i hi => by simp [Array.getD, hi])
  rwa [size_madeCells] at this
set_option maxHeartbeats 4000000 in
theorem toRasO_any (lo : Nat) (v : Value) (Xl : List Ra) (w : World) (hv : RasAt lo w v Xl) (hn : RasSmall Xl) :
    Calls Tryz.prog 40 #[v] w fun e w' => ∃ v', e = .returned v' ∧ Below w.heap.size w w' ∧ RasOwn w.heap.size w'.heap.size w' v' Xl := by
  obtain ⟨i0, hi, hz0, hz1, hz2⟩ := info_parts Ra_info
  have HSM := hide hn.2
  have hn1 := hn.1
  clear hn
  by_cases hL : Xl = []
  · subst hL
    obtain ⟨a, cap, rfl⟩ := hv.form
    clear hv
    have hmk : ∀ u : World, (Instr.makeSlice 39 (.int .i64 0) (.int .i64 0)).run Tryz.prog u = .ok (.slice (some ⟨u.heap.size, 0, none⟩) 0 0) (u.alloc (.cells (madeCells (Value.cells (.agg #[.int .i64 0, .slice none 0 0])) 0) 112)) := fun u => by
      have h := run_make (P := Tryz.prog) u 39 112 i0 _ Tryz.underlying39 hi hz0 .i64 .i64 0 0 (by omega) (by omega) (by omega) (by omega)
      simpa [hz1] using h
    go_enter Tryz.func40, Tryz.ntmps40
    go_wp2
    go_loop [4] (fun i => i = .int .i64 0) (fun _ => 0)
    case atStart => rfl
    case round =>
      subst hrel
      go_wp2
      go_ret
      exact ⟨_, rfl, (Below.refl _ _).alloc (Nat.le_refl _) _, Or.inl ⟨_, _, rfl, rfl⟩⟩
  · obtain ⟨b, off, cap, rfl, hm, hbw, _, hc⟩ := hv.full hL
    clear hv
    have HM : Hid (Xl.length ≤ maxLen) := hm
    unfold maxLen at hm
    have hmk : ∀ u : World, (Instr.makeSlice 39 (.int .i64 (Xl.length : Int)) (.int .i64 (Xl.length : Int))).run Tryz.prog u = .ok (.slice (some ⟨u.heap.size, 0, none⟩) Xl.length Xl.length) (u.alloc (.cells (madeCells (Value.cells (.agg #[.int .i64 0, .slice none 0 0])) (Xl.length * 2)) 112)) := fun u => by
      have h := run_make (P := Tryz.prog) u 39 112 i0 _ Tryz.underlying39 hi hz0 .i64 .i64 Xl.length Xl.length (by omega) (by omega) (by rw [hz2]; omega) (by omega)
      rw [hz1] at h
      simpa using h
    clear hi hz0 hz1 hz2
    go_enter Tryz.func40, Tryz.ntmps40
    go_wp2
    clear hmk
    go_loopw [4] (fun i wr => ∃ (k : Nat) (c : Nat → Nat), i = .int .i64 k ∧ k ≤ Xl.length ∧ Below w.heap.size w wr ∧ RasFillO wr w.heap.size Xl k c) (fun i _ => Xl.length - (intOf i).toNat)
    case atStart => exact ⟨0, _, rfl, by omega, (Below.refl _ _).alloc (Nat.le_refl _) _, RasFillO.new w Xl _⟩
    case round =>
      obtain ⟨k, c, rfl, hk, hb, hf⟩ := hrel
      by_cases hlt : k < Xl.length
      · obtain ⟨hs, vv0, hc, hv0⟩ := hc k hlt
        have HB := hide hb
        have HF := hide hf
        have HSZ := hide hs
        obtain ⟨x0, y0, rfl⟩ := hv0.form
        obtain ⟨c0, c1⟩ := hc.below hb hbw
        have HV0 := hide (hv0.below hb)
        clear hv0
        clear hc hb hf hs
        go_wp2_with fail
        refine (toRaO_any 0 _ Xl[k] _ ⟨_, _, rfl, ⟨HV0.out.mono (Nat.zero_le _)⟩⟩ (HSM.out k hlt)).mono ?_
        rintro e w1 ⟨s0, t0, rfl, hb1, hO0⟩
        rw [show (raL Xl[k] s0 t0).toArray = #[.int .i64 Xl[k].ix, .slice s0 Xl[k].fr.length t0] from rfl]
        have hf1 := HF.out.below hb1
        have hB : Hid (Below w.heap.size w w1) := HB.out.trans (hb1.mono HB.out.size)
        have HST := hide (hf1.step hlt HSZ.out w1.heap.size (Nat.le_trans HF.out.2.2.1 hb1.size) (Nat.le_refl _) (Nat.le_trans HF.out.2.2.1 hb1.size) (hO0.wide HF.out.2.2.1 (Nat.le_refl _)))
        have hfr := hf1.free
        obtain ⟨o0, ho0⟩ := hf1.there (k * 2) (by omega)
        obtain ⟨o1, ho1⟩ := hf1.there (k * 2 + 1) (by omega)
        clear hf1 hb1 HF HB c0 c1
        go_wp2
        go_roundw
        case rel =>
          exact ⟨k + 1, _, by go_num, by omega, ((hB.out.setCell (Nat.le_refl _) _).setCell (Nat.le_refl _) _), HST.out⟩
        case measure => simp [intOf]; omega
      · have e : k = Xl.length := by omega
        go_wp2
        go_ret
        exact ⟨_, rfl, hb, hf.own e hL HM.out⟩
end Go.Proofs.YtfbfgljkiikabaaGreat
namespace Go.Proofs.YtfbfgljkiikabaaGreat
open Go.RowKit Go.Deep

theorem FR.own {X : Type} {f : X → List Value} {n : Nat} {w : World} {lo hi g cap : Nat} {L : List X} (h : FR f n w lo hi g cap L) : FR f n w g (g + 1) g cap L := ⟨Nat.le_refl _, Nat.lt_succ_self _, h.lt, h.le, h.mx, h.th, h.fz, h.rg⟩
/-- a thing's inner list, apart from the row's own block g -/
def Inn (w : World) (lo hi g : Nat) (x : MX) : Prop := ∃ l u, lo ≤ l ∧ l ≤ u ∧ u ≤ hi ∧ (g < l ∨ u ≤ g) ∧ FRow rsL 2 w l u (.slice x.2.1 x.1.sl.length x.2.2) x.1.sl
/-- a row that grows, its inner lists apart from each other, all of it in [lo, hi) -/
structure MR (w : World) (lo hi g : Nat) (v : Value) (L : List MX) : Prop where
  row : FRow mxL 8 w g (g + 1) v L
  low : lo ≤ g
  up : g < hi
  inn : ∃ c : Nat → Nat × Nat, (∀ i, i < L.length → lo ≤ (c i).1 ∧ (c i).1 ≤ (c i).2 ∧ (c i).2 ≤ hi ∧ (g < (c i).1 ∨ (c i).2 ≤ g)) ∧ (∀ i j, i < L.length → j < L.length → i ≠ j → (c i).2 ≤ (c j).1 ∨ (c j).2 ≤ (c i).1) ∧ ∀ i (h : i < L.length), FRow rsL 2 w (c i).1 (c i).2 (.slice L[i].2.1 L[i].1.sl.length L[i].2.2) L[i].1.sl
theorem MR.below {w w' : World} {lo hi g : Nat} {v : Value} {L : List MX} (h : MR w lo hi g v L) (hb : Below w.heap.size w w') : MR w' lo hi g v L := by
  obtain ⟨c, h1, h2, h3⟩ := h.inn
  exact ⟨h.row.below hb, h.low, h.up, c, h1, h2, fun i hi => (h3 i hi).below hb⟩
theorem MR.wide {w : World} {lo hi hi' g : Nat} {v : Value} {L : List MX} (h : MR w lo hi g v L) (hh : hi ≤ hi') : MR w lo hi' g v L := by
  obtain ⟨c, h1, h2, h3⟩ := h.inn
  exact ⟨h.row, h.low, Nat.lt_of_lt_of_le h.up hh, c, fun i hi => ⟨(h1 i hi).1, (h1 i hi).2.1, Nat.le_trans (h1 i hi).2.2.1 hh, (h1 i hi).2.2.2⟩, h2, h3⟩
theorem MR.touch {w w' : World} {lo hi g : Nat} {v : Value} {L : List MX} (h : MR w lo hi g v L) {lo' hi' : Nat} (ht : Touch lo' hi' w w') (hh : hi ≤ lo' ∨ hi' ≤ lo) : MR w' lo hi g v L := by
  obtain ⟨c, h1, h2, h3⟩ := h.inn
  exact ⟨h.row.touch ht (by have := h.low; have := h.up; omega), h.low, h.up, c, h1, h2, fun i hi => (h3 i hi).touch ht (by have := h1 i hi; omega)⟩
theorem MR.lt {w : World} {lo hi g : Nat} {v : Value} {L : List MX} (h : MR w lo hi g v L) : g < w.heap.size := by
  obtain ⟨g', cap, -, hr⟩ := h.row
  have h1 := hr.bs
  have h2 := hr.up
  have h3 := hr.lt
  omega
/-- behind an append of one more, its inner list behind all that was there -/
theorem MR.snoc {W W' : World} {lo n g : Nat} {v v' : Value} {L : List MX} {x : MX} (h : MR W lo n g v L) (_hn : n ≤ W.heap.size) (hx : Inn W n W.heap.size g x) (ht : Touch g (g + 1) W W') (hf : FRow mxL 8 W' g (g + 1) v' (L ++ [x]) ∨ FRow mxL 8 W' W.heap.size W'.heap.size v' (L ++ [x])) (hlo : lo ≤ n) : ∃ g', MR W' lo W'.heap.size g' v' (L ++ [x]) := by
  obtain ⟨c, h1, h2, h3⟩ := h.inn
  obtain ⟨l, u, x1, x2, x3, x4, x5⟩ := hx
  have hsz := ht.size
  have hll : (L ++ [x]).length = L.length + 1 := by simp
  obtain ⟨d, hd⟩ : ∃ d : Nat → Nat × Nat, d = fun i => if i = L.length then (l, u) else c i := ⟨_, rfl⟩
  have e1 : ∀ i, i < L.length → d i = c i := fun i hi => by rw [hd]; exact if_neg (by omega)
  have e2 : d L.length = (l, u) := by rw [hd]; exact if_pos rfl
  have seg : ∀ i, i < (L ++ [x]).length → lo ≤ (d i).1 ∧ (d i).1 ≤ (d i).2 ∧ (d i).2 ≤ W.heap.size ∧ (g < (d i).1 ∨ (d i).2 ≤ g) := fun i hi => by
    by_cases q : i < L.length
    · rw [e1 i q]; have := h1 i q; omega
    · rw [show i = L.length by omega, e2]; exact ⟨by omega, x2, x3, x4⟩
  have ap : ∀ i j, i < (L ++ [x]).length → j < (L ++ [x]).length → i ≠ j → (d i).2 ≤ (d j).1 ∨ (d j).2 ≤ (d i).1 := fun i j hi hj hne => by
    by_cases q : i < L.length
    · by_cases r : j < L.length
      · rw [e1 i q, e1 j r]; exact h2 i j q r hne
      · rw [e1 i q, show j = L.length by omega, e2]; have := h1 i q; simp only []; omega
    · rw [show i = L.length by omega, e2, e1 j (by omega)]; have := h1 j (by omega); simp only []; omega
  have inn : ∀ i (hi : i < (L ++ [x]).length), FRow rsL 2 W' (d i).1 (d i).2 (.slice (L ++ [x])[i].2.1 (L ++ [x])[i].1.sl.length (L ++ [x])[i].2.2) (L ++ [x])[i].1.sl := fun i hi => by
    have hs := seg i hi
    refine FRow.touch ?_ ht (by omega)
    by_cases q : i < L.length
    · rw [e1 i q, List.getElem_append_left q]; exact h3 i q
    · have e : i = L.length := by omega
      subst e
      have ex : (L ++ [x])[L.length] = x := by simp
      rw [e2, ex]; exact x5
  rcases hf with hf | hf
  · exact ⟨g, hf, h.low, by have := h.up; omega, d, fun i hi => by have := seg i hi; omega, ap, inn⟩
  · obtain ⟨g', cap, q1, q2⟩ := hf
    have hbs := q2.bs
    exact ⟨g', ⟨g', cap, q1, q2.own⟩, by omega, q2.lt, d, fun i hi => by have := seg i hi; omega, ap, inn⟩
theorem MR.rms {w : World} {lo hi g : Nat} {v : Value} {L : List MX} {Xl : List Rm} (h : MR w lo hi g v L) (hL : L.map (·.1) = Xl) (hz : ∀ i (h : i < Xl.length), (∀ j (hj : j < Xl[i].sl.length), RsSize Xl[i].sl[j]) ∧ Xl[i].tx.size ≤ maxLen) : RmsAt lo w v Xl := by
  subst hL
  refine h.row.rms h.low fun i hi => ?_
  obtain ⟨c, h1, h2, h3⟩ := h.inn
  have := hz i (by simpa using hi)
  simp only [List.getElem_map] at this
  exact ⟨((h3 i hi).rss this.1).at.mono (h1 i hi).1, this.2⟩
theorem RmsAt.sizes {lo : Nat} {w : World} {v : Value} {Xl : List Rm} (h : RmsAt lo w v Xl) : ∀ i (h : i < Xl.length), (∀ j (hj : j < Xl[i].sl.length), RsSize Xl[i].sl[j]) ∧ Xl[i].tx.size ≤ maxLen := by
  intro i hi
  obtain ⟨a, cap, rfl⟩ := h.form
  obtain ⟨b, off, -, -, -, hc⟩ := h.full' (by omega)
  obtain ⟨cs, -, a0, k0, -, hf⟩ := hc i hi
  exact ⟨fun j hj => hf.l0.sizes j hj, hf.s0⟩

set_option maxRecDepth 20000 in
set_option maxHeartbeats 8000000 in
theorem msgsF_any (lo : Nat) (v : Value) (Xl : List Rm) (w : World) (hv : RmsAt lo w v Xl) (hn : RmsSmall Xl) :
    Calls Tryz.prog 67 #[v] w fun e w' => ∃ v' g L, e = .returned v' ∧ Below w.heap.size w w' ∧ MR w' w.heap.size w'.heap.size g v' L ∧ L.map (·.1) = Xl := by
  have HV := hide hv
  have HN := hide hn.2
  have hn1 := hn.1
  obtain ⟨a, cap, rfl⟩ := hv.form
  clear hv hn
  go_enter Tryz.func67, Tryz.ntmps67
  go_wp2
  go_loopw [3, 4] (fun o i wr => ∃ (k g : Nat) (L : List MX), i = .int .i64 k ∧ k ≤ Xl.length ∧ Below w.heap.size w wr ∧ MR wr w.heap.size wr.heap.size g o L ∧ L.map (·.1) = Xl.take k) (fun _ i _ => Xl.length - (intOf i).toNat)
  case atStart =>
    exact ⟨0, w.heap.size, [], rfl, by omega, one_al _ _, ⟨⟨w.heap.size, 0, rfl, (fr_new mxL 8 w _ _ 0 rfl (Nat.zero_le _)).own⟩, Nat.le_refl _, by simp, ⟨fun _ => (0, 0), fun i hi => absurd hi (Nat.not_lt_zero _), fun i j hi => absurd hi (Nat.not_lt_zero _), fun i hi => absurd hi (Nat.not_lt_zero _)⟩⟩, by simp⟩
  case round =>
    obtain ⟨k, g, L, rfl, hk, hb, hm, hL⟩ := hrel
    have HB := hide hb
    have HM := hide hm
    have HL := hide hL
    have HLl : Hid (L.length = k) := by
      unfold Hid
      have := congrArg List.length hL
      rw [List.length_map, List.length_take] at this
      omega
    clear hb hm hL
    obtain ⟨gg, cp, ho, hfr⟩ := HM.out.row
    subst ho
    clear hfr
    by_cases hlt : k < Xl.length
    · obtain ⟨b, off, rfl, hbw, -, hc⟩ := HV.out.full' (by omega)
      obtain ⟨m, hm'⟩ : ∃ m, m = Xl[k] := ⟨_, rfl⟩
      obtain ⟨ms, hr, b0, m0, rfl, hf⟩ := hc k hlt
      rw [← hm'] at hf hr
      have HS : Hid (m.sl.length ≤ 1048576) := by unfold Hid; rw [hm']; exact (HN.out k hlt).1
      have HF : Hid (RssAt lo wr (.slice b0 m.sl.length m0) m.sl) := hf.l0.below HB.out
      have HR := rng_below hr HB.out hbw
      have HX := hide hm'
      have s0 : wr.cell? ⟨b, off + k * 8, none⟩ = some (.int .i64 m.kd) := HR 0 _ rfl
      have s1 : wr.cell? ⟨b, off + k * 8 + 1, none⟩ = some (.int .i64 m.fr) := HR 1 _ rfl
      have s2 : wr.cell? ⟨b, off + k * 8 + 2, none⟩ = some (.int .i64 m.tt) := HR 2 _ rfl
      have s3 : wr.cell? ⟨b, off + k * 8 + 3, none⟩ = some (.int .i64 m.ba) := HR 3 _ rfl
      have s4 : wr.cell? ⟨b, off + k * 8 + 4, none⟩ = some (.int .i64 m.ix) := HR 4 _ rfl
      have s5 : wr.cell? ⟨b, off + k * 8 + 5, none⟩ = some (.int .i64 m.kn) := HR 5 _ rfl
      have s6 : wr.cell? ⟨b, off + k * 8 + 6, none⟩ = some (.string m.tx) := HR 6 _ rfl
      have s7 : wr.cell? ⟨b, off + k * 8 + 7, none⟩ = some (.slice b0 m.sl.length m0) := HR 7 _ rfl
      have i0 : (0 : Int) ≤ (k : Int) := by omega
      have i1 : (k : Int) < (Xl.length : Int) := by omega
      clear hc hr hf hm' HR
      go_wp2_with fail
      clear s0 s1 s2 s3 s4 s5 s6 s7
      refine (msgF_any lo m b0 m0 _ HF.out HS.out).mono ?_
      rintro e w1 ⟨b1, m1, rfl, hb1, hf1⟩
      have HB1 : Hid (Below w.heap.size w w1) := bt HB.out hb1
      have HM1 := hide (HM.out.below hb1)
      have hnw := hb1.size
      have hlw := HB.out.size
      have HI1 : Hid (Inn w1 wr.heap.size w1.heap.size g (m, b1, m1)) := ⟨_, _, Nat.le_refl _, hb1.size, Nat.le_refl _, Or.inl HM.out.up, hf1⟩
      clear hb1 hf1 HM HB HF
      rw [show (rmL m b1 m1).toArray = #[.int .i64 m.kd, .int .i64 m.fr, .int .i64 m.tt, .int .i64 m.ba, .int .i64 m.ix, .int .i64 m.kn, .string m.tx, .slice b1 m.sl.length m1] from rfl]
      have HIo : Hid (∀ o, Inn (w1.alloc o) wr.heap.size (w1.alloc o).heap.size g (m, b1, m1)) := fun o => by
        obtain ⟨l, u, h1, h0, h2, h3, h4⟩ := HI1.out
        exact ⟨l, u, h1, h0, Nat.le_trans h2 (one_al w1 o).size, h3, h4.below (one_al _ _)⟩
      go_wp2_with (at_builtin; refine wpList_fr mxL_len (by decide) Tryz.underlying38 Rm_info rfl (w := w1.alloc _) (lo := g) (hi' := g + 1) (L := L) [(m, b1, m1)] rfl (.tmp 12) (.tmp 18) rfl rfl (HM1.out.below (one_al _ _)).row (some ⟨w1.heap.size, 0, none⟩) 1 1 rfl rfl (fun e => by cases e) (fun ad e j u hu => by
          injection e with e
          subst e
          rw [Addr.add_lit, Nat.zero_add, (Box.new w1 _ _ _ rfl).cell j]
          simpa [flatV, mxL, rmL] using hu) (mxL_one _) (by have := HLl.out; simp; omega) (by decide) ?_; intro v' w' h1 h2; have H1 := hide h1; have H2 := hide h2; clear h1 h2)
      have hsz := HB1.out.size
      obtain ⟨g', hg'⟩ := (HM1.out.below (one_al _ _)).snoc (by simp; omega) (HIo.out _) H1.out H2.out hlw
      have HG := hide hg'
      have HBn : Hid (Below w.heap.size w w') := (bt HB1.out (one_al _ _)).trans ((H1.out.under (by have := HM1.out.lt; simp; omega)).mono HM1.out.low)
      clear hg'
      go_roundw
      case rel => exact ⟨k + 1, g', L ++ [(m, b1, m1)], by go_num, by omega, HBn.out, HG.out, by rw [List.map_append, HL.out, List.take_succ_eq_append_getElem hlt, HX.out]; rfl⟩
      case measure => simp [intOf]; omega
    · go_wp2
      go_ret
      exact ⟨_, g, L, rfl, HB.out, HM.out, by rw [HL.out, List.take_of_length_le (by omega)]⟩
end Go.Proofs.YtfbfgljkiikabaaGreat
