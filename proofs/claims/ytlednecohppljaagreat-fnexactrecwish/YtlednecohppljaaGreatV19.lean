import Derived.Test.YtlednecohppljaaGreatV18
namespace Go.Proofs.YtlednecohppljaaGreat
open Go.RowKit Go.Deep

theorem RasAt.full {lo : Nat} {w : World} {v : Value} {Xl : List Ra} (h : RasAt lo w v Xl) (hne : Xl ≠ []) : ∃ (b off cap : Nat), v = .slice (some ⟨b, off, none⟩) Xl.length cap ∧ Xl.length ≤ maxLen ∧ b < w.heap.size ∧ Xl.length ≤ cap ∧
    ∀ i (h : i < Xl.length), RaSize Xl[i] ∧ ∃ vv0, RaCells w b (off + i * 2) Xl[i] vv0 ∧ RisAt lo w vv0 Xl[i].fr := by
  rcases h with ⟨_, _, _, h⟩ | ⟨b, off, cap, h1, _, h3, h4, _, h6, h7⟩
  · exact absurd h hne
  · refine ⟨b, off, cap, h1, h3, h4, h6, fun i hi => ?_⟩
    obtain ⟨cs, hr, a0, k0, rfl, hf⟩ := h7 i hi
    exact ⟨rfl, .slice a0 Xl[i].fr.length k0, ⟨hr 0 _ rfl, hr 1 _ rfl⟩, hf.l0⟩
def RasFillO (wr : World) (B : Nat) (Xl : List Ra) (k : Nat) (c : Nat → Nat) : Prop :=
  B < c 0 ∧ (∀ i, i < k → c i ≤ c (i + 1)) ∧ c k ≤ wr.heap.size ∧ ∃ f, wr.rowIs B 102 (Xl.length * 2) f ∧ ∀ i (h : i < Xl.length), i < k → RaSize Xl[i] ∧ ∃ (vv0 : Value), (c i) ≤ (c (i + 1)) ∧ f (i * 2) = .int .i64 Xl[i].ix ∧ f (i * 2 + 1) = vv0 ∧ RisOwn (c i) (c (i + 1)) wr vv0 Xl[i].fr
theorem RasFillO.le {wr : World} {B : Nat} {Xl : List Ra} {k : Nat} {c : Nat → Nat} (h : RasFillO wr B Xl k c) {i : Nat} : ∀ {j : Nat}, i ≤ j → j ≤ k → c i ≤ c j := by
  intro j
  induction j with
  | zero => intro hij _; have : i = 0 := by omega
            subst this; exact Nat.le_refl _
  | succ j ih =>
    intro hij hjn
    by_cases e : i = j + 1
    · subst e; exact Nat.le_refl _
    · exact Nat.le_trans (ih (by omega) (by omega)) (h.2.1 j (by omega))
theorem RasFillO.below {wr w1 : World} {B : Nat} {Xl : List Ra} {k : Nat} {c : Nat → Nat} (h : RasFillO wr B Xl k c) (hb : Below wr.heap.size wr w1) : RasFillO w1 B Xl k c := by
  obtain ⟨g1, g2, g3, f, hr, hall⟩ := h
  refine ⟨g1, g2, Nat.le_trans g3 hb.size, f, hr.of_block (hb.block B hr.lt), fun i hi hik => ?_⟩
  obtain ⟨hz, vv0, q0, h0, h1, l0⟩ := hall i hi hik
  exact ⟨hz, vv0, q0, h0, h1, l0.below hb⟩
theorem RasFillO.free {wr : World} {B : Nat} {Xl : List Ra} {k : Nat} {c : Nat → Nat} (h : RasFillO wr B Xl k c) (i : Nat) : wr.frozen? ⟨B, i, none⟩ = false := by
  obtain ⟨_, _, _, f, hr, _⟩ := h
  exact hr.frozen i
theorem RasFillO.there {wr : World} {B : Nat} {Xl : List Ra} {k : Nat} {c : Nat → Nat} (h : RasFillO wr B Xl k c) (i : Nat) (hi : i < Xl.length * 2) : ∃ v, wr.cell? ⟨B, i, none⟩ = some v := by
  obtain ⟨_, _, _, f, hr, _⟩ := h
  exact ⟨_, hr.cell hi⟩
theorem RasFillO.lt {wr : World} {B : Nat} {Xl : List Ra} {k : Nat} {c : Nat → Nat} (h : RasFillO wr B Xl k c) : B < wr.heap.size := by
  obtain ⟨_, _, _, f, hr, _⟩ := h
  exact hr.lt
theorem RasFillO.step {w1 : World} {B : Nat} {Xl : List Ra} {k : Nat} {c : Nat → Nat} {vv0 : Value} (h : RasFillO w1 B Xl k c) (hk : k < Xl.length) (hz : RaSize Xl[k]) (d : Nat) (hd0 : c k ≤ d) (hd : d ≤ w1.heap.size) (r0 : (c k) ≤ d) (e0 : RisOwn (c k) d w1 vv0 Xl[k].fr) :
    RasFillO ((w1.setCell ⟨B, k * 2, none⟩ (.int .i64 Xl[k].ix)).setCell ⟨B, k * 2 + 1, none⟩ (vv0)) B Xl (k + 1) (fun j => if j ≤ k then c j else d) := by
  have hle := fun i (hi : i ≤ k) => h.le (i := 0) (j := i) (Nat.zero_le _) hi
  have hle2 := fun i (hi : i < k) => h.le (i := i + 1) (j := k) (by omega) (Nat.le_refl _)
  obtain ⟨g1, g2, g3, f, hr, hall⟩ := h
  have hts : Touch B (B + 1) w1 ((w1.setCell ⟨B, k * 2, none⟩ (.int .i64 Xl[k].ix)).setCell ⟨B, k * 2 + 1, none⟩ (vv0)) := (Touch.setB B _ _ _).trans (Touch.setB B _ _ _)
  refine ⟨by simpa using g1, fun i hi => ?_, ?_, _, ((hr.set _ _).set _ _), fun i hi hik => ?_⟩
  · dsimp only
    by_cases e : i = k
    · subst e; rw [if_pos (Nat.le_refl _), if_neg (by omega)]; exact hd0
    · rw [if_pos (by omega), if_pos (by omega)]; exact g2 i (by omega)
  · dsimp only; rw [if_neg (by omega)]; exact Nat.le_trans hd hts.size
  by_cases e : i = k
  · subst e
    dsimp only
    rw [if_pos (Nat.le_refl _), if_neg (by omega)]
    have hb0 := hle i (Nat.le_refl _)
    exact ⟨hz, vv0, r0, by simp, by simp, e0.touch hts (by omega)⟩
  · dsimp only
    rw [if_pos (by omega), if_pos (by omega)]
    have hb0 := hle i (by omega)
    obtain ⟨hz, vv0, q0, h0, h1, l0⟩ := hall i hi (by omega)
    refine ⟨hz, vv0, q0, ?_, ?_, l0.touch hts (by omega)⟩
    · rw [if_neg (by omega), if_neg (by omega)]; exact h0
    · rw [if_neg (by omega), if_neg (by omega)]; exact h1
theorem RasFillO.own {wr : World} {B : Nat} {Xl : List Ra} {k : Nat} {c : Nat → Nat} (h : RasFillO wr B Xl k c) (hk : k = Xl.length) (hne : Xl ≠ []) (hm : Xl.length ≤ maxLen) : RasOwn B wr.heap.size wr (.slice (some ⟨B, 0, none⟩) Xl.length Xl.length) Xl := by
  subst hk
  have hle := fun i (hi : i ≤ Xl.length) => h.le (i := 0) (j := i) (Nat.zero_le _) hi
  have hle2 := fun i (hi : i < Xl.length) => h.le (i := i + 1) (j := Xl.length) (by omega) (Nat.le_refl _)
  have hle3 := fun i j (hi : i < j) (hj : j < Xl.length) => h.le (i := i + 1) (j := j) (by omega) (by omega)
  obtain ⟨g1, g2, g3, f, hr, hall⟩ := h
  have h0 : 0 < Xl.length := List.length_pos_iff.2 hne
  refine Or.inr ⟨B, 0, Xl.length, fun i => (c i, c (i + 1)), fun i => if h : i < Xl.length then Xl[i] else Xl[0], rfl, hne, hm, Nat.le_refl _, fun i hi => by simp [hi], hr.lt, Nat.le_refl _, hr.lt, fun i hi => ⟨by have := hle i (by omega); simp only []; omega, by have := hle2 i hi; simp only []; omega, Or.inl (by have := hle i (by omega); simp only []; omega)⟩, fun i j hi hj hne => by
    rcases Nat.lt_or_ge i j with h | h
    · exact Or.inl (hle3 i j h hj)
    · exact Or.inr (hle3 j i (by omega) hi), fun i => hr.frozen i, fun i hi => ?_⟩
  obtain ⟨hz, vv0, q0, h0, h1, l0⟩ := hall i hi hi
  simp only [hi, dif_pos]
  rw [Nat.zero_add]
  exact ⟨hz, vv0, q0, ⟨by rw [hr.cell (by omega), h0], by rw [hr.cell (by omega), h1]⟩, l0⟩
theorem RasFillO.new (w : World) (Xl : List Ra) (z : Array Value) : RasFillO (w.alloc (.cells (madeCells z (Xl.length * 2)) 102)) w.heap.size Xl 0 (fun _ => w.heap.size + 1) := by
  refine ⟨Nat.lt_succ_self _, fun i hi => by omega, by simp, fun i => (madeCells z (Xl.length * 2)).getD i default, ?_, fun i _ h => by omega⟩
  have := World.rowIs_alloc w (madeCells z (Xl.length * 2)) 102 (fun i => (madeCells z (Xl.length * 2)).getD i default) (fun i hi => by simp [Array.getD, hi])
  rwa [size_madeCells] at this
set_option maxHeartbeats 4000000 in
theorem toRasO_any (lo : Nat) (v : Value) (Xl : List Ra) (w : World) (hv : RasAt lo w v Xl) (hn : RasSmall Xl) :
    Calls Tryz.prog 34 #[v] w fun e w' => ∃ v', e = .returned v' ∧ Below w.heap.size w w' ∧ RasOwn w.heap.size w'.heap.size w' v' Xl := by
  obtain ⟨i0, hi, hz0, hz1, hz2⟩ := info_parts Ra_info
  have HSM := hide hn.2
  have hn1 := hn.1
  clear hn
  by_cases hL : Xl = []
  · subst hL
    obtain ⟨a, cap, rfl⟩ := hv.form
    clear hv
    have hmk : ∀ u : World, (Instr.makeSlice 39 (.int .i64 0) (.int .i64 0)).run Tryz.prog u = .ok (.slice (some ⟨u.heap.size, 0, none⟩) 0 0) (u.alloc (.cells (madeCells (Value.cells (.agg #[.int .i64 0, .slice none 0 0])) 0) 102)) := fun u => by
      have h := run_make (P := Tryz.prog) u 39 102 i0 _ Tryz.underlying39 hi hz0 .i64 .i64 0 0 (by omega) (by omega) (by omega) (by omega)
      simpa [hz1] using h
    go_enter Tryz.func34, Tryz.ntmps34
    go_wp2
    go_loop [4] (fun i => i = .int .i64 0) (fun _ => 0)
    case atStart => rfl
    case round =>
      subst hrel
      go_wp2
      go_ret
      exact ⟨_, rfl, (Below.refl _ _).alloc (Nat.le_refl _) _, Or.inl ⟨_, _, rfl, rfl⟩⟩
  · obtain ⟨b, off, cap, rfl, hm, hbw, _, hc⟩ := hv.full hL
    clear hv
    have HM : Hid (Xl.length ≤ maxLen) := hm
    unfold maxLen at hm
    have hmk : ∀ u : World, (Instr.makeSlice 39 (.int .i64 (Xl.length : Int)) (.int .i64 (Xl.length : Int))).run Tryz.prog u = .ok (.slice (some ⟨u.heap.size, 0, none⟩) Xl.length Xl.length) (u.alloc (.cells (madeCells (Value.cells (.agg #[.int .i64 0, .slice none 0 0])) (Xl.length * 2)) 102)) := fun u => by
      have h := run_make (P := Tryz.prog) u 39 102 i0 _ Tryz.underlying39 hi hz0 .i64 .i64 Xl.length Xl.length (by omega) (by omega) (by rw [hz2]; omega) (by omega)
      rw [hz1] at h
      simpa using h
    clear hi hz0 hz1 hz2
    go_enter Tryz.func34, Tryz.ntmps34
    go_wp2
    clear hmk
    go_loopw [4] (fun i wr => ∃ (k : Nat) (c : Nat → Nat), i = .int .i64 k ∧ k ≤ Xl.length ∧ Below w.heap.size w wr ∧ RasFillO wr w.heap.size Xl k c) (fun i _ => Xl.length - (intOf i).toNat)
    case atStart => exact ⟨0, _, rfl, by omega, (Below.refl _ _).alloc (Nat.le_refl _) _, RasFillO.new w Xl _⟩
    case round =>
      obtain ⟨k, c, rfl, hk, hb, hf⟩ := hrel
      by_cases hlt : k < Xl.length
      · obtain ⟨hs, vv0, hc, hv0⟩ := hc k hlt
        have HB := hide hb
        have HF := hide hf
        have HSZ := hide hs
        obtain ⟨x0, y0, rfl⟩ := hv0.form
        obtain ⟨c0, c1⟩ := hc.below hb hbw
        have HV0 := hide (hv0.below hb)
        clear hv0
        clear hc hb hf hs
        go_wp2_with fail
        refine (toRaO_any 0 _ Xl[k] _ ⟨_, _, rfl, ⟨HV0.out.mono (Nat.zero_le _)⟩⟩ (HSM.out k hlt)).mono ?_
        rintro e w1 ⟨s0, t0, rfl, hb1, hO0⟩
        rw [show (raL Xl[k] s0 t0).toArray = #[.int .i64 Xl[k].ix, .slice s0 Xl[k].fr.length t0] from rfl]
        have hf1 := HF.out.below hb1
        have hB : Hid (Below w.heap.size w w1) := HB.out.trans (hb1.mono HB.out.size)
        have HST := hide (hf1.step hlt HSZ.out w1.heap.size (Nat.le_trans HF.out.2.2.1 hb1.size) (Nat.le_refl _) (Nat.le_trans HF.out.2.2.1 hb1.size) (hO0.wide HF.out.2.2.1 (Nat.le_refl _)))
        have hfr := hf1.free
        obtain ⟨o0, ho0⟩ := hf1.there (k * 2) (by omega)
        obtain ⟨o1, ho1⟩ := hf1.there (k * 2 + 1) (by omega)
        clear hf1 hb1 HF HB c0 c1
        go_wp2
        go_roundw
        case rel =>
          exact ⟨k + 1, _, by go_num, by omega, ((hB.out.setCell (Nat.le_refl _) _).setCell (Nat.le_refl _) _), HST.out⟩
        case measure => simp [intOf]; omega
      · have e : k = Xl.length := by omega
        go_wp2
        go_ret
        exact ⟨_, rfl, hb, hf.own e hL HM.out⟩
end Go.Proofs.YtlednecohppljaaGreat
namespace Go.Proofs.YtlednecohppljaaGreat
open Go.RowKit Go.Deep

theorem NRow.rts {w : World} {lo hi : Nat} {v : Value} {L : List ByteArray} (h : NRow tyL 1 w lo hi v L) (hz : ∀ i (h : i < L.length), L[i].size ≤ maxLen) : RtsOwn lo hi w v L := by
  rcases h with ⟨h, rfl⟩ | h
  · exact Or.inl ⟨_, _, h, rfl⟩
  · exact h.rts hz
theorem NRow.ris {w : World} {lo hi : Nat} {v : Value} {L : List Int} (h : NRow inL 1 w lo hi v L) : RisOwn lo hi w v L := by
  rcases h with ⟨h, rfl⟩ | h
  · exact Or.inl ⟨_, _, h, rfl⟩
  · exact h.ris
/-- lists of things that have a list of their own inside (P x w lo hi: the list inside x lies in [lo, hi)), each in a part of [lo, hi) apart from the others' and from the block g -/
structure Inns {X : Type} (P : X → World → Nat → Nat → Prop) (w : World) (lo hi g : Nat) (L : List X) (c : Nat → Nat × Nat) : Prop where
  seg : ∀ i, i < L.length → lo ≤ (c i).1 ∧ (c i).1 ≤ (c i).2 ∧ (c i).2 ≤ hi ∧ (g < (c i).1 ∨ (c i).2 ≤ g)
  ap : ∀ i j, i < L.length → j < L.length → i ≠ j → (c i).2 ≤ (c j).1 ∨ (c j).2 ≤ (c i).1
  inn : ∀ i (h : i < L.length), P L[i] w (c i).1 (c i).2
structure Clo {X : Type} (P : X → World → Nat → Nat → Prop) : Prop where
  cb : ∀ {x : X} {w w' : World} {lo hi : Nat}, P x w lo hi → Below w.heap.size w w' → P x w' lo hi
  ct : ∀ {x : X} {w w' : World} {lo hi lo' hi' : Nat}, P x w lo hi → Touch lo' hi' w w' → (hi ≤ lo' ∨ hi' ≤ lo) → P x w' lo hi
theorem Inns.below {X : Type} {P : X → World → Nat → Nat → Prop} (hP : Clo P) {w w' : World} {lo hi g : Nat} {L : List X} {c : Nat → Nat × Nat} (h : Inns P w lo hi g L c) (hb : Below w.heap.size w w') : Inns P w' lo hi g L c :=
  ⟨h.seg, h.ap, fun i hi => hP.cb (h.inn i hi) hb⟩
theorem Inns.touch {X : Type} {P : X → World → Nat → Nat → Prop} (hP : Clo P) {w w' : World} {lo hi g lo' hi' : Nat} {L : List X} {c : Nat → Nat × Nat} (h : Inns P w lo hi g L c) (ht : Touch lo' hi' w w') (ho : ∀ i, i < L.length → (c i).2 ≤ lo' ∨ hi' ≤ (c i).1) : Inns P w' lo hi g L c :=
  ⟨h.seg, h.ap, fun i hi => hP.ct (h.inn i hi) ht (ho i hi)⟩
theorem Inns.wide {X : Type} {P : X → World → Nat → Nat → Prop} {w : World} {lo hi lo' hi' g : Nat} {L : List X} {c : Nat → Nat × Nat} (h : Inns P w lo hi g L c) (h1 : lo' ≤ lo) (h2 : hi ≤ hi') : Inns P w lo' hi' g L c :=
  ⟨fun i hi => by have := h.seg i hi; omega, h.ap, h.inn⟩
/-- such a row, in [lo, hi) -/
def GRow {X : Type} (P : X → World → Nat → Nat → Prop) (f : X → List Value) (n : Nat) (w : World) (lo hi : Nat) (v : Value) (L : List X) : Prop := ∃ g c, FRow f n w g (g + 1) v L ∧ lo ≤ g ∧ g < hi ∧ Inns P w lo hi g L c
def NGRow {X : Type} (P : X → World → Nat → Nat → Prop) (f : X → List Value) (n : Nat) (w : World) (lo hi : Nat) (v : Value) (L : List X) : Prop := (v = .slice none 0 0 ∧ L = []) ∨ GRow P f n w lo hi v L
theorem NGRow.below {X : Type} {P : X → World → Nat → Nat → Prop} (hP : Clo P) {f : X → List Value} {n : Nat} {w w' : World} {lo hi : Nat} {v : Value} {L : List X} (h : NGRow P f n w lo hi v L) (hb : Below w.heap.size w w') : NGRow P f n w' lo hi v L :=
  h.imp id fun ⟨g, c, h1, h2, h3, h4⟩ => ⟨g, c, h1.below hb, h2, h3, h4.below hP hb⟩
theorem NGRow.touch {X : Type} {P : X → World → Nat → Nat → Prop} (hP : Clo P) {f : X → List Value} {n : Nat} {w w' : World} {lo hi lo' hi' : Nat} {v : Value} {L : List X} (h : NGRow P f n w lo hi v L) (ht : Touch lo' hi' w w') (ho : hi ≤ lo' ∨ hi' ≤ lo) : NGRow P f n w' lo hi v L :=
  h.imp id fun ⟨g, c, h1, h2, h3, h4⟩ => ⟨g, c, h1.touch ht (by omega), h2, h3, h4.touch hP ht fun i hi => by have := h4.seg i hi; omega⟩
theorem NGRow.wide {X : Type} {P : X → World → Nat → Nat → Prop} {f : X → List Value} {n : Nat} {w : World} {lo hi lo' hi' : Nat} {v : Value} {L : List X} (h : NGRow P f n w lo hi v L) (h1 : lo' ≤ lo) (h2 : hi ≤ hi') : NGRow P f n w lo' hi' v L :=
  h.imp id fun ⟨g, c, e1, e2, e3, e4⟩ => ⟨g, c, e1, by omega, by omega, e4.wide h1 h2⟩
theorem NGRow.set {X : Type} {P : X → World → Nat → Nat → Prop} (hP : Clo P) {f : X → List Value} {n : Nat} {w : World} {lo hi : Nat} {v : Value} {L : List X} (h : NGRow P f n w lo hi v L) {p : Addr} (hp : p.block < lo) (u : Value) : NGRow P f n (w.setCell p u) lo hi v L :=
  h.touch hP (Touch.setCell p.block (p.block + 1) w p u ⟨Nat.le_refl _, Nat.lt_succ_self _⟩) (Or.inr hp)
theorem NGRow.form {X : Type} {P : X → World → Nat → Nat → Prop} {f : X → List Value} {n : Nat} {w : World} {lo hi : Nat} {v : Value} {L : List X} (h : NGRow P f n w lo hi v L) : ∃ a c, v = .slice a L.length c := by
  rcases h with ⟨h, rfl⟩ | ⟨_, _, ⟨g, cap, h, _⟩, _⟩
  · exact ⟨none, 0, h⟩
  · exact ⟨_, _, h⟩
/-- one more part behind the others -/
def cSnoc (c : Nat → Nat × Nat) (n : Nat) (p : Nat × Nat) : Nat → Nat × Nat := fun i => if i = n then p else c i
theorem Inns.snoc {X : Type} {P : X → World → Nat → Nat → Prop} {w : World} {lo hi g : Nat} {L : List X} {c : Nat → Nat × Nat} (h : Inns P w lo hi g L c) {x : X} {l u : Nat} (hx : P x w l u) (h1 : lo ≤ l) (h0 : l ≤ u) (h2 : u ≤ hi) (h3 : g < l ∨ u ≤ g) (h4 : ∀ i, i < L.length → (c i).2 ≤ l ∨ u ≤ (c i).1) : Inns P w lo hi g (L ++ [x]) (cSnoc c L.length (l, u)) := by
  have e1 : ∀ i, i < L.length → cSnoc c L.length (l, u) i = c i := fun i hi => if_neg (by omega)
  have e2 : cSnoc c L.length (l, u) L.length = (l, u) := if_pos rfl
  have hl : (L ++ [x]).length = L.length + 1 := by simp
  refine ⟨fun i hi => ?_, fun i j hi hj hne => ?_, fun i hi => ?_⟩
  · by_cases e : i < L.length
    · rw [e1 i e]; exact h.seg i e
    · obtain rfl : i = L.length := by omega
      rw [e2]; exact ⟨h1, h0, h2, h3⟩
  · by_cases e : i < L.length
    · rw [e1 i e]
      by_cases e' : j < L.length
      · rw [e1 j e']; exact h.ap i j e e' hne
      · obtain rfl : j = L.length := by omega
        rw [e2]; exact h4 i e
    · obtain rfl : i = L.length := by omega
      rw [e2, e1 j (by omega)]
      exact (h4 j (by omega)).symm
  · by_cases e : i < L.length
    · rw [e1 i e, List.getElem_append_left e]; exact h.inn i e
    · obtain rfl : i = L.length := by omega
      rw [e2]
      simpa using hx
def PM (x : MX) (w : World) (lo hi : Nat) : Prop := NRow rsL 2 w lo hi (.slice x.2.1 x.1.sl.length x.2.2) x.1.sl
def PA (x : AX) (w : World) (lo hi : Nat) : Prop := NRow inL 1 w lo hi (.slice x.2.1 x.1.fr.length x.2.2) x.1.fr
theorem cloM : Clo PM := ⟨fun h hb => NRow.below h hb, fun h ht ho => NRow.touch h ht ho⟩
theorem cloA : Clo PA := ⟨fun h hb => NRow.below h hb, fun h ht ho => NRow.touch h ht ho⟩
theorem NGRow.rms {w : World} {lo hi : Nat} {v : Value} {L : List MX} {Xl : List Rm} (h : NGRow PM mxL 8 w lo hi v L) (hL : L.map (·.1) = Xl) (hz : ∀ i (h : i < Xl.length), (∀ j (hj : j < Xl[i].sl.length), RsSize Xl[i].sl[j]) ∧ Xl[i].tx.size ≤ maxLen) : RmsOwn lo hi w v Xl := by
  subst hL
  rcases h with ⟨h, rfl⟩ | ⟨g, c, ⟨g', cap, h1, h2⟩, hlo, hhi, hi4⟩
  · exact Or.inl ⟨_, _, h, rfl⟩
  · obtain rfl : g' = g := by have := h2.bs; have := h2.up; omega
    by_cases hne : L = []
    · subst hne; exact Or.inl ⟨_, _, h1, rfl⟩
    have h0 : 0 < L.length := List.length_pos_iff.2 hne
    have hcell : ∀ i (hi : i < L.length) (t : Nat) (ht : t < 8) (u : Value), (mxL L[i])[t]? = some u → w.cell? ⟨g', 0 + i * 8 + t, none⟩ = some u := fun i hi t ht u hu => by
      rw [Nat.zero_add]; exact h2.get mxL_len hi ht hu
    refine Or.inr ⟨g', 0, cap, c, fun i => if h : i < L.length then L[i].1 else L[0].1, by rw [List.length_map]; exact h1, by simpa using hne, by rw [List.length_map]; exact Nat.le_trans h2.le h2.mx, by rw [List.length_map]; exact h2.le, fun i hi => ?_, h2.lt, hlo, hhi, fun i hi => by have := hi4.seg i (by simpa using hi); omega, fun i j hi hj => hi4.ap i j (by simpa using hi) (by simpa using hj), h2.fz, fun i hi => ?_⟩
    · rw [List.length_map] at hi
      simp [hi]
    · rw [List.length_map] at hi
      have hzi := hz i (by simpa using hi)
      simp only [List.getElem_map] at hzi
      simp only [hi, dif_pos]
      have hin : NRow rsL 2 w (c i).1 (c i).2 (.slice L[i].2.1 L[i].1.sl.length L[i].2.2) L[i].1.sl := hi4.inn i hi
      exact ⟨⟨hzi.2⟩, .slice L[i].2.1 L[i].1.sl.length L[i].2.2, (hi4.seg i hi).2.1, ⟨hcell i hi 0 (by omega) _ rfl, hcell i hi 1 (by omega) _ rfl, hcell i hi 2 (by omega) _ rfl, hcell i hi 3 (by omega) _ rfl, hcell i hi 4 (by omega) _ rfl, hcell i hi 5 (by omega) _ rfl, hcell i hi 6 (by omega) _ rfl, hcell i hi 7 (by omega) _ rfl⟩, hin.rss hzi.1⟩
theorem NGRow.ras {w : World} {lo hi : Nat} {v : Value} {L : List AX} {Xl : List Ra} (h : NGRow PA axL 2 w lo hi v L) (hL : L.map (·.1) = Xl) : RasOwn lo hi w v Xl := by
  subst hL
  rcases h with ⟨h, rfl⟩ | ⟨g, c, ⟨g', cap, h1, h2⟩, hlo, hhi, hi4⟩
  · exact Or.inl ⟨_, _, h, rfl⟩
  · obtain rfl : g' = g := by have := h2.bs; have := h2.up; omega
    by_cases hne : L = []
    · subst hne; exact Or.inl ⟨_, _, h1, rfl⟩
    have h0 : 0 < L.length := List.length_pos_iff.2 hne
    have hcell : ∀ i (hi : i < L.length) (t : Nat) (ht : t < 2) (u : Value), (axL L[i])[t]? = some u → w.cell? ⟨g', 0 + i * 2 + t, none⟩ = some u := fun i hi t ht u hu => by
      rw [Nat.zero_add]; exact h2.get axL_len hi ht hu
    refine Or.inr ⟨g', 0, cap, c, fun i => if h : i < L.length then L[i].1 else L[0].1, by rw [List.length_map]; exact h1, by simpa using hne, by rw [List.length_map]; exact Nat.le_trans h2.le h2.mx, by rw [List.length_map]; exact h2.le, fun i hi => ?_, h2.lt, hlo, hhi, fun i hi => by have := hi4.seg i (by simpa using hi); omega, fun i j hi hj => hi4.ap i j (by simpa using hi) (by simpa using hj), h2.fz, fun i hi => ?_⟩
    · rw [List.length_map] at hi
      simp [hi]
    · rw [List.length_map] at hi
      simp only [hi, dif_pos]
      have hin : NRow inL 1 w (c i).1 (c i).2 (.slice L[i].2.1 L[i].1.fr.length L[i].2.2) L[i].1.fr := hi4.inn i hi
      exact ⟨rfl, .slice L[i].2.1 L[i].1.fr.length L[i].2.2, (hi4.seg i hi).2.1, ⟨hcell i hi 0 (by omega) _ rfl, hcell i hi 1 (by omega) _ rfl⟩, hin.ris⟩
end Go.Proofs.YtlednecohppljaaGreat
