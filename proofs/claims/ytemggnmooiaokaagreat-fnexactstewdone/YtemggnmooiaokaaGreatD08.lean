import Derived.Test.YtemggnmooiaokaaGreatD07
namespace Go.Proofs.YtemggnmooiaokaaGreat
open Go.RowKit Go.Deep

def EnsFillO (wr : World) (B : Nat) (Xl : List En) (k : Nat) (c : Nat → Nat) : Prop :=
  B < c 0 ∧ (∀ i, i < k → c i ≤ c (i + 1)) ∧ c k ≤ wr.heap.size ∧ ∃ f, wr.rowIs B 119 (Xl.length * 2) f ∧ ∀ i (h : i < Xl.length), i < k → EnSize Xl[i] ∧ f (i * 2) = .int .i64 Xl[i].nu ∧ f (i * 2 + 1) = .int .i64 Xl[i].sn
theorem EnsFillO.le {wr : World} {B : Nat} {Xl : List En} {k : Nat} {c : Nat → Nat} (h : EnsFillO wr B Xl k c) {i : Nat} : ∀ {j : Nat}, i ≤ j → j ≤ k → c i ≤ c j := by
  intro j
  induction j with
  | zero => intro hij _; have : i = 0 := by omega
            subst this; exact Nat.le_refl _
  | succ j ih =>
    intro hij hjn
    by_cases e : i = j + 1
    · subst e; exact Nat.le_refl _
    · exact Nat.le_trans (ih (by omega) (by omega)) (h.2.1 j (by omega))
theorem EnsFillO.below {wr w1 : World} {B : Nat} {Xl : List En} {k : Nat} {c : Nat → Nat} (h : EnsFillO wr B Xl k c) (hb : Below wr.heap.size wr w1) : EnsFillO w1 B Xl k c := by
  obtain ⟨g1, g2, g3, f, hr, hall⟩ := h
  refine ⟨g1, g2, Nat.le_trans g3 hb.size, f, hr.of_block (hb.block B hr.lt), fun i hi hik => ?_⟩
  obtain ⟨hz, h0, h1⟩ := hall i hi hik
  exact ⟨hz, h0, h1⟩
theorem EnsFillO.free {wr : World} {B : Nat} {Xl : List En} {k : Nat} {c : Nat → Nat} (h : EnsFillO wr B Xl k c) (i : Nat) : wr.frozen? ⟨B, i, none⟩ = false := by
  obtain ⟨_, _, _, f, hr, _⟩ := h
  exact hr.frozen i
theorem EnsFillO.there {wr : World} {B : Nat} {Xl : List En} {k : Nat} {c : Nat → Nat} (h : EnsFillO wr B Xl k c) (i : Nat) (hi : i < Xl.length * 2) : ∃ v, wr.cell? ⟨B, i, none⟩ = some v := by
  obtain ⟨_, _, _, f, hr, _⟩ := h
  exact ⟨_, hr.cell hi⟩
theorem EnsFillO.lt {wr : World} {B : Nat} {Xl : List En} {k : Nat} {c : Nat → Nat} (h : EnsFillO wr B Xl k c) : B < wr.heap.size := by
  obtain ⟨_, _, _, f, hr, _⟩ := h
  exact hr.lt
theorem EnsFillO.step {w1 : World} {B : Nat} {Xl : List En} {k : Nat} {c : Nat → Nat} (h : EnsFillO w1 B Xl k c) (hk : k < Xl.length) (hz : EnSize Xl[k]) (d : Nat) (hd0 : c k ≤ d) (hd : d ≤ w1.heap.size) :
    EnsFillO ((w1.setCell ⟨B, k * 2, none⟩ (.int .i64 Xl[k].nu)).setCell ⟨B, k * 2 + 1, none⟩ (.int .i64 Xl[k].sn)) B Xl (k + 1) (fun j => if j ≤ k then c j else d) := by
  have hle := fun i (hi : i ≤ k) => h.le (i := 0) (j := i) (Nat.zero_le _) hi
  have hle2 := fun i (hi : i < k) => h.le (i := i + 1) (j := k) (by omega) (Nat.le_refl _)
  obtain ⟨g1, g2, g3, f, hr, hall⟩ := h
  have hts : Touch B (B + 1) w1 ((w1.setCell ⟨B, k * 2, none⟩ (.int .i64 Xl[k].nu)).setCell ⟨B, k * 2 + 1, none⟩ (.int .i64 Xl[k].sn)) := (Touch.setB B _ _ _).trans (Touch.setB B _ _ _)
  refine ⟨by simpa using g1, fun i hi => ?_, ?_, _, ((hr.set _ _).set _ _), fun i hi hik => ?_⟩
  · dsimp only
    by_cases e : i = k
    · subst e; rw [if_pos (Nat.le_refl _), if_neg (by omega)]; exact hd0
    · rw [if_pos (by omega), if_pos (by omega)]; exact g2 i (by omega)
  · dsimp only; rw [if_neg (by omega)]; exact Nat.le_trans hd hts.size
  by_cases e : i = k
  · subst e
    have hb0 := hle i (Nat.le_refl _)
    exact ⟨hz, by simp, by simp⟩
  · have hb0 := hle i (by omega)
    obtain ⟨hz, h0, h1⟩ := hall i hi (by omega)
    refine ⟨hz, ?_, ?_⟩
    · rw [if_neg (by omega), if_neg (by omega)]; exact h0
    · rw [if_neg (by omega), if_neg (by omega)]; exact h1
theorem EnsFillO.own {wr : World} {B : Nat} {Xl : List En} {k : Nat} {c : Nat → Nat} (h : EnsFillO wr B Xl k c) (hk : k = Xl.length) (hne : Xl ≠ []) (hm : Xl.length ≤ maxLen) : EnsOwn B wr.heap.size wr (.slice (some ⟨B, 0, none⟩) Xl.length Xl.length) Xl := by
  subst hk
  obtain ⟨g1, g2, g3, f, hr, hall⟩ := h
  have h0 : 0 < Xl.length := List.length_pos_iff.2 hne
  refine Or.inr ⟨B, 0, Xl.length, c, fun i => if h : i < Xl.length then Xl[i] else Xl[0], rfl, hne, hm, Nat.le_refl _, fun i hi => by simp [hi], hr.lt, Nat.le_refl _, g1, hr.lt, g2, g3, fun i => hr.frozen i, fun i hi => ?_⟩
  obtain ⟨hz, h0, h1⟩ := hall i hi hi
  simp only [hi, dif_pos]
  rw [Nat.zero_add]
  exact ⟨hz, ⟨by rw [hr.cell (by omega), h0], by rw [hr.cell (by omega), h1]⟩⟩
theorem EnsFillO.new (w : World) (Xl : List En) (z : Array Value) : EnsFillO (w.alloc (.cells (madeCells z (Xl.length * 2)) 119)) w.heap.size Xl 0 (fun _ => w.heap.size + 1) := by
  refine ⟨Nat.lt_succ_self _, fun i hi => by omega, by simp, fun i => (madeCells z (Xl.length * 2)).getD i default, ?_, fun i _ h => by omega⟩
  have := World.rowIs_alloc w (madeCells z (Xl.length * 2)) 119 (fun i => (madeCells z (Xl.length * 2)).getD i default) (fun i hi => by simp [Array.getD, hi])
  rwa [size_madeCells] at this
end Go.Proofs.YtemggnmooiaokaaGreat
namespace Go.Proofs.YtemggnmooiaokaaGreat
open Go.RowKit Go.Deep

def CpsFillO (wr : World) (B : Nat) (Xl : List Cp) (k : Nat) (c : Nat → Nat) : Prop :=
  B < c 0 ∧ (∀ i, i < k → c i ≤ c (i + 1)) ∧ c k ≤ wr.heap.size ∧ ∃ f, wr.rowIs B 87 (Xl.length * 7) f ∧ ∀ i (h : i < Xl.length), i < k → CpSize Xl[i] ∧ f (i * 7) = .string Xl[i].se ∧ f (i * 7 + 1) = .int .i64 Xl[i].nu ∧ f (i * 7 + 2) = .int .i64 Xl[i].ve ∧ f (i * 7 + 3) = .int .i64 Xl[i].im ∧ f (i * 7 + 4) = .int .i64 Xl[i].st ∧ f (i * 7 + 5) = .bool Xl[i].en ∧ f (i * 7 + 6) = .string Xl[i].be
theorem CpsFillO.le {wr : World} {B : Nat} {Xl : List Cp} {k : Nat} {c : Nat → Nat} (h : CpsFillO wr B Xl k c) {i : Nat} : ∀ {j : Nat}, i ≤ j → j ≤ k → c i ≤ c j := by
  intro j
  induction j with
  | zero => intro hij _; have : i = 0 := by omega
            subst this; exact Nat.le_refl _
  | succ j ih =>
    intro hij hjn
    by_cases e : i = j + 1
    · subst e; exact Nat.le_refl _
    · exact Nat.le_trans (ih (by omega) (by omega)) (h.2.1 j (by omega))
theorem CpsFillO.below {wr w1 : World} {B : Nat} {Xl : List Cp} {k : Nat} {c : Nat → Nat} (h : CpsFillO wr B Xl k c) (hb : Below wr.heap.size wr w1) : CpsFillO w1 B Xl k c := by
  obtain ⟨g1, g2, g3, f, hr, hall⟩ := h
  refine ⟨g1, g2, Nat.le_trans g3 hb.size, f, hr.of_block (hb.block B hr.lt), fun i hi hik => ?_⟩
  obtain ⟨hz, h0, h1, h2, h3, h4, h5, h6⟩ := hall i hi hik
  exact ⟨hz, h0, h1, h2, h3, h4, h5, h6⟩
theorem CpsFillO.free {wr : World} {B : Nat} {Xl : List Cp} {k : Nat} {c : Nat → Nat} (h : CpsFillO wr B Xl k c) (i : Nat) : wr.frozen? ⟨B, i, none⟩ = false := by
  obtain ⟨_, _, _, f, hr, _⟩ := h
  exact hr.frozen i
theorem CpsFillO.there {wr : World} {B : Nat} {Xl : List Cp} {k : Nat} {c : Nat → Nat} (h : CpsFillO wr B Xl k c) (i : Nat) (hi : i < Xl.length * 7) : ∃ v, wr.cell? ⟨B, i, none⟩ = some v := by
  obtain ⟨_, _, _, f, hr, _⟩ := h
  exact ⟨_, hr.cell hi⟩
theorem CpsFillO.lt {wr : World} {B : Nat} {Xl : List Cp} {k : Nat} {c : Nat → Nat} (h : CpsFillO wr B Xl k c) : B < wr.heap.size := by
  obtain ⟨_, _, _, f, hr, _⟩ := h
  exact hr.lt
theorem CpsFillO.step {w1 : World} {B : Nat} {Xl : List Cp} {k : Nat} {c : Nat → Nat} (h : CpsFillO w1 B Xl k c) (hk : k < Xl.length) (hz : CpSize Xl[k]) (d : Nat) (hd0 : c k ≤ d) (hd : d ≤ w1.heap.size) :
    CpsFillO (((((((w1.setCell ⟨B, k * 7, none⟩ (.string Xl[k].se)).setCell ⟨B, k * 7 + 1, none⟩ (.int .i64 Xl[k].nu)).setCell ⟨B, k * 7 + 2, none⟩ (.int .i64 Xl[k].ve)).setCell ⟨B, k * 7 + 3, none⟩ (.int .i64 Xl[k].im)).setCell ⟨B, k * 7 + 4, none⟩ (.int .i64 Xl[k].st)).setCell ⟨B, k * 7 + 5, none⟩ (.bool Xl[k].en)).setCell ⟨B, k * 7 + 6, none⟩ (.string Xl[k].be)) B Xl (k + 1) (fun j => if j ≤ k then c j else d) := by
  have hle := fun i (hi : i ≤ k) => h.le (i := 0) (j := i) (Nat.zero_le _) hi
  have hle2 := fun i (hi : i < k) => h.le (i := i + 1) (j := k) (by omega) (Nat.le_refl _)
  obtain ⟨g1, g2, g3, f, hr, hall⟩ := h
  have hts : Touch B (B + 1) w1 (((((((w1.setCell ⟨B, k * 7, none⟩ (.string Xl[k].se)).setCell ⟨B, k * 7 + 1, none⟩ (.int .i64 Xl[k].nu)).setCell ⟨B, k * 7 + 2, none⟩ (.int .i64 Xl[k].ve)).setCell ⟨B, k * 7 + 3, none⟩ (.int .i64 Xl[k].im)).setCell ⟨B, k * 7 + 4, none⟩ (.int .i64 Xl[k].st)).setCell ⟨B, k * 7 + 5, none⟩ (.bool Xl[k].en)).setCell ⟨B, k * 7 + 6, none⟩ (.string Xl[k].be)) := ((((((Touch.setB B _ _ _).trans (Touch.setB B _ _ _)).trans (Touch.setB B _ _ _)).trans (Touch.setB B _ _ _)).trans (Touch.setB B _ _ _)).trans (Touch.setB B _ _ _)).trans (Touch.setB B _ _ _)
  refine ⟨by simpa using g1, fun i hi => ?_, ?_, _, (((((((hr.set _ _).set _ _).set _ _).set _ _).set _ _).set _ _).set _ _), fun i hi hik => ?_⟩
  · dsimp only
    by_cases e : i = k
    · subst e; rw [if_pos (Nat.le_refl _), if_neg (by omega)]; exact hd0
    · rw [if_pos (by omega), if_pos (by omega)]; exact g2 i (by omega)
  · dsimp only; rw [if_neg (by omega)]; exact Nat.le_trans hd hts.size
  by_cases e : i = k
  · subst e
    have hb0 := hle i (Nat.le_refl _)
    exact ⟨hz, by simp, by simp, by simp, by simp, by simp, by simp, by simp⟩
  · have hb0 := hle i (by omega)
    obtain ⟨hz, h0, h1, h2, h3, h4, h5, h6⟩ := hall i hi (by omega)
    refine ⟨hz, ?_, ?_, ?_, ?_, ?_, ?_, ?_⟩
    · rw [if_neg (by omega), if_neg (by omega), if_neg (by omega), if_neg (by omega), if_neg (by omega), if_neg (by omega), if_neg (by omega)]; exact h0
    · rw [if_neg (by omega), if_neg (by omega), if_neg (by omega), if_neg (by omega), if_neg (by omega), if_neg (by omega), if_neg (by omega)]; exact h1
    · rw [if_neg (by omega), if_neg (by omega), if_neg (by omega), if_neg (by omega), if_neg (by omega), if_neg (by omega), if_neg (by omega)]; exact h2
    · rw [if_neg (by omega), if_neg (by omega), if_neg (by omega), if_neg (by omega), if_neg (by omega), if_neg (by omega), if_neg (by omega)]; exact h3
    · rw [if_neg (by omega), if_neg (by omega), if_neg (by omega), if_neg (by omega), if_neg (by omega), if_neg (by omega), if_neg (by omega)]; exact h4
    · rw [if_neg (by omega), if_neg (by omega), if_neg (by omega), if_neg (by omega), if_neg (by omega), if_neg (by omega), if_neg (by omega)]; exact h5
    · rw [if_neg (by omega), if_neg (by omega), if_neg (by omega), if_neg (by omega), if_neg (by omega), if_neg (by omega), if_neg (by omega)]; exact h6
theorem CpsFillO.own {wr : World} {B : Nat} {Xl : List Cp} {k : Nat} {c : Nat → Nat} (h : CpsFillO wr B Xl k c) (hk : k = Xl.length) (hne : Xl ≠ []) (hm : Xl.length ≤ maxLen) : CpsOwn B wr.heap.size wr (.slice (some ⟨B, 0, none⟩) Xl.length Xl.length) Xl := by
  subst hk
  obtain ⟨g1, g2, g3, f, hr, hall⟩ := h
  have h0 : 0 < Xl.length := List.length_pos_iff.2 hne
  refine Or.inr ⟨B, 0, Xl.length, c, fun i => if h : i < Xl.length then Xl[i] else Xl[0], rfl, hne, hm, Nat.le_refl _, fun i hi => by simp [hi], hr.lt, Nat.le_refl _, g1, hr.lt, g2, g3, fun i => hr.frozen i, fun i hi => ?_⟩
  obtain ⟨hz, h0, h1, h2, h3, h4, h5, h6⟩ := hall i hi hi
  simp only [hi, dif_pos]
  rw [Nat.zero_add]
  exact ⟨hz, ⟨by rw [hr.cell (by omega), h0], by rw [hr.cell (by omega), h1], by rw [hr.cell (by omega), h2], by rw [hr.cell (by omega), h3], by rw [hr.cell (by omega), h4], by rw [hr.cell (by omega), h5], by rw [hr.cell (by omega), h6]⟩⟩
theorem CpsFillO.new (w : World) (Xl : List Cp) (z : Array Value) : CpsFillO (w.alloc (.cells (madeCells z (Xl.length * 7)) 87)) w.heap.size Xl 0 (fun _ => w.heap.size + 1) := by
  refine ⟨Nat.lt_succ_self _, fun i hi => by omega, by simp, fun i => (madeCells z (Xl.length * 7)).getD i default, ?_, fun i _ h => by omega⟩
  have := World.rowIs_alloc w (madeCells z (Xl.length * 7)) 87 (fun i => (madeCells z (Xl.length * 7)).getD i default) (fun i hi => by simp [Array.getD, hi])
  rwa [size_madeCells] at this
set_option maxHeartbeats 4000000 in
theorem toCpsO_any (lo : Nat) (v : Value) (Xl : List Cp) (w : World) (hv : CpsAt lo w v Xl) (hn : CpsSmall Xl) :
    Calls Tryz.prog 23 #[v] w fun e w' => ∃ v', e = .returned v' ∧ Below w.heap.size w w' ∧ CpsOwn w.heap.size w'.heap.size w' v' Xl := by
  obtain ⟨i0, hi, hz0, hz1, hz2⟩ := info_parts Tryz.info87
  have HSM := hide hn.2
  have hn1 := hn.1
  clear hn
  by_cases hL : Xl = []
  · subst hL
    obtain ⟨a, cap, rfl⟩ := hv.form
    clear hv
    have hmk : ∀ u : World, (Instr.makeSlice 30 (.int .i64 0) (.int .i64 0)).run Tryz.prog u = .ok (.slice (some ⟨u.heap.size, 0, none⟩) 0 0) (u.alloc (.cells (madeCells (Value.cells (.agg #[.string ⟨#[]⟩, .int .i64 0, .int .i64 0, .int .i64 0, .int .i64 0, .bool false, .string ⟨#[]⟩])) 0) 87)) := fun u => by
      have h := run_make (P := Tryz.prog) u 30 87 i0 _ Tryz.underlying30 hi hz0 .i64 .i64 0 0 (by omega) (by omega) (by omega) (by omega)
      simpa [hz1] using h
    go_enter Tryz.func23, Tryz.ntmps23
    go_wp2
    go_loop [4] (fun i => i = .int .i64 0) (fun _ => 0)
    case atStart => rfl
    case round =>
      subst hrel
      go_wp2
      go_ret
      exact ⟨_, rfl, (Below.refl _ _).alloc (Nat.le_refl _) _, Or.inl ⟨_, _, rfl, rfl⟩⟩
  · obtain ⟨b, off, cap, rfl, hm, hbw, _, hc⟩ := hv.full hL
    clear hv
    have HM : Hid (Xl.length ≤ maxLen) := hm
    unfold maxLen at hm
    have hmk : ∀ u : World, (Instr.makeSlice 30 (.int .i64 (Xl.length : Int)) (.int .i64 (Xl.length : Int))).run Tryz.prog u = .ok (.slice (some ⟨u.heap.size, 0, none⟩) Xl.length Xl.length) (u.alloc (.cells (madeCells (Value.cells (.agg #[.string ⟨#[]⟩, .int .i64 0, .int .i64 0, .int .i64 0, .int .i64 0, .bool false, .string ⟨#[]⟩])) (Xl.length * 7)) 87)) := fun u => by
      have h := run_make (P := Tryz.prog) u 30 87 i0 _ Tryz.underlying30 hi hz0 .i64 .i64 Xl.length Xl.length (by omega) (by omega) (by rw [hz2]; omega) (by omega)
      rw [hz1] at h
      simpa using h
    clear hi hz0 hz1 hz2
    go_enter Tryz.func23, Tryz.ntmps23
    go_wp2
    clear hmk
    go_loopw [4] (fun i wr => ∃ (k : Nat) (c : Nat → Nat), i = .int .i64 k ∧ k ≤ Xl.length ∧ Below w.heap.size w wr ∧ CpsFillO wr w.heap.size Xl k c) (fun i _ => Xl.length - (intOf i).toNat)
    case atStart => exact ⟨0, _, rfl, by omega, (Below.refl _ _).alloc (Nat.le_refl _) _, CpsFillO.new w Xl _⟩
    case round =>
      obtain ⟨k, c, rfl, hk, hb, hf⟩ := hrel
      by_cases hlt : k < Xl.length
      · obtain ⟨hs, hc⟩ := hc k hlt
        have HB := hide hb
        have HF := hide hf
        have HSZ := hide hs
        obtain ⟨c0, c1, c2, c3, c4, c5, c6⟩ := hc.below hb hbw
        clear hc hb hf hs
        go_wp2_with fail
        refine (toCp_any _ _).mono ?_
        rintro e w1 ⟨rfl, hb1⟩
        have hf1 := HF.out.below hb1
        have hB : Hid (Below w.heap.size w w1) := HB.out.trans (hb1.mono HB.out.size)
        have HST := hide (hf1.step hlt HSZ.out w1.heap.size (Nat.le_trans HF.out.2.2.1 hb1.size) (Nat.le_refl _))
        have hfr := hf1.free
        obtain ⟨o0, ho0⟩ := hf1.there (k * 7) (by omega)
        obtain ⟨o1, ho1⟩ := hf1.there (k * 7 + 1) (by omega)
        obtain ⟨o2, ho2⟩ := hf1.there (k * 7 + 2) (by omega)
        obtain ⟨o3, ho3⟩ := hf1.there (k * 7 + 3) (by omega)
        obtain ⟨o4, ho4⟩ := hf1.there (k * 7 + 4) (by omega)
        obtain ⟨o5, ho5⟩ := hf1.there (k * 7 + 5) (by omega)
        obtain ⟨o6, ho6⟩ := hf1.there (k * 7 + 6) (by omega)
        clear hf1 hb1 HF HB c0 c1 c2 c3 c4 c5 c6
        go_wp2
        go_roundw
        case rel =>
          exact ⟨k + 1, _, by go_num, by omega, (((((((hB.out.setCell (Nat.le_refl _) _).setCell (Nat.le_refl _) _).setCell (Nat.le_refl _) _).setCell (Nat.le_refl _) _).setCell (Nat.le_refl _) _).setCell (Nat.le_refl _) _).setCell (Nat.le_refl _) _), HST.out⟩
        case measure => simp [intOf]; omega
      · have e : k = Xl.length := by omega
        go_wp2
        go_ret
        exact ⟨_, rfl, hb, hf.own e hL HM.out⟩
end Go.Proofs.YtemggnmooiaokaaGreat
namespace Go.Proofs.YtemggnmooiaokaaGreat
open Go.RowKit Go.Deep

def svF (L : List Sv) (s : ByteArray) : Option Sv := L.find? fun x => x.nm.toList == s.toList
def hasBe (L : List Be) (s : ByteArray) : Bool := L.any fun x => x.nm.toList == s.toList
def cpT (B : Sb) (c : Cp) (x : Sv) : Bool := inB 1 (x.nx - 1) c.nu && (inB 1 B.now c.ve && (inB 1 1000000 c.im && (inB 1 4 c.st && (if c.st == 1 then c.be.toList.isEmpty else hasBe B.bs c.be))))
def cpB (B : Sb) (c : Cp) : Bool := match svF B.ss c.se with
  | none => false
  | some x => cpT B c x
def aheadB (a b : Cp) : Bool := Op.bytesLess a.se.toList b.se.toList || ((a.se.toList == b.se.toList) && decide (a.nu < b.nu))
/-- each stands behind the one ahead of it -/
def risN {X : Type} (r : X → X → Bool) (L : List X) : Nat → Bool
  | 0 => true
  | j + 1 => match L[j]?, L[j + 1]? with
    | some x, some y => r x y
    | _, _ => true
def risR {X : Type} (r : X → X → Bool) (L : List X) : Bool := (List.range L.length).all (risN r L)
theorem risN_at {X : Type} {r : X → X → Bool} {L : List X} {j : Nat} (h : j + 1 < L.length) : risN r L (j + 1) = r L[j] L[j + 1] := by
  show (match L[j]?, L[j + 1]? with | some x, some y => r x y | _, _ => true) = _
  rw [List.getElem?_eq_getElem (by omega), List.getElem?_eq_getElem h]
def rSv (x y : Sv) : Bool := Op.bytesLess x.nm.toList y.nm.toList
def rBe (x y : Be) : Bool := Op.bytesLess x.nm.toList y.nm.toList
def beB (x : Be) : Bool := nmB x.nm
/-- where a service stands; whether a berth is there -/
def svI (L : List Sv) (s : ByteArray) : Nat := L.findIdx fun x => x.nm.toList == s.toList
def SvPl (L : List Sv) (s : ByteArray) (r : Int) : Prop := (r = -1 ∧ svF L s = none) ∨ (r = (svI L s : Int) ∧ ∃ (h : svI L s < L.length), svF L s = some L[svI L s])
def BePl (L : List Be) (s : ByteArray) (r : Int) : Prop := decide (0 ≤ r) = hasBe L s
/-- a valid book -/
def validB (B : Sb) : Bool := inB 0 1000000 B.now && (decide (B.ss.length ≤ 8) && (decide (B.cs.length ≤ 200) && (decide (B.bs.length ≤ 6) && ((B.ss.all (svB B.now) && risR rSv B.ss) && ((B.bs.all beB && risR rBe B.bs) && (B.cs.all (cpB B) && risR aheadB B.cs))))))
theorem all_no {X : Type} {L : List X} {f : X → Bool} {k : Nat} (hk : k < L.length) (h : f L[k] = false) : L.all f = false := by
  rw [List.all_eq_false]
  exact ⟨L[k], List.getElem_mem hk, by simp [h]⟩
theorem all_yes {X : Type} {L : List X} {f : X → Bool} (h : ∀ i (h : i < L.length), f L[i] = true) : L.all f = true := by
  rw [List.all_eq_true]
  intro x hx
  obtain ⟨i, hi, rfl⟩ := List.getElem_of_mem hx
  exact h i hi
theorem all_at {X : Type} {L : List X} {f : X → Bool} (h : L.all f = true) {k : Nat} (hk : k < L.length) : f L[k] = true := List.all_eq_true.1 h _ (List.getElem_mem hk)
theorem step_all {X : Type} {L : List X} {f : X → Bool} {k : Nat} (hall : ∀ j (h : j < L.length), j < k → f L[j] = true) (hk : k < L.length) (h : f L[k] = true) : ∀ j (h : j < L.length), j < k + 1 → f L[j] = true := fun j hj hjk => by
  by_cases e : j = k
  · subst e; exact h
  · exact hall j hj (by omega)
theorem find_at {X : Type} {L : List X} {f : X → Bool} {k : Nat} (hk : k < L.length) (hno : ∀ j (h : j < L.length), j < k → f L[j] = false) (h : f L[k] = true) : L.find? f = some L[k] := by
  rw [List.find?_eq_some_iff_getElem]
  exact ⟨h, k, hk, rfl, fun j hj => by rw [hno j (by omega) hj]; rfl⟩
theorem idx_at {X : Type} {L : List X} {f : X → Bool} {k : Nat} (hk : k < L.length) (hno : ∀ j (h : j < L.length), j < k → f L[j] = false) (h : f L[k] = true) : L.findIdx f = k := (List.findIdx_eq hk).2 ⟨h, fun j hj => hno j (by omega) hj⟩
theorem SvPl.at {L : List Sv} {s : ByteArray} {k : Nat} (hk : k < L.length) (hno : ∀ j (h : j < L.length), j < k → (L[j].nm.toList == s.toList) = false) (h : (L[k].nm.toList == s.toList) = true) : SvPl L s (k : Int) := by
  have hi : svI L s = k := idx_at (f := fun x : Sv => x.nm.toList == s.toList) hk hno h
  refine Or.inr ?_
  rw [hi]
  exact ⟨rfl, hk, find_at (f := fun x : Sv => x.nm.toList == s.toList) hk hno h⟩
theorem find_none {X : Type} {L : List X} {f : X → Bool} (hno : ∀ j (h : j < L.length), f L[j] = false) : L.find? f = none := by
  rw [List.find?_eq_none]
  intro x hx
  obtain ⟨i, hi, rfl⟩ := List.getElem_of_mem hx
  rw [hno i hi]; exact Bool.false_ne_true
theorem any_at {X : Type} {L : List X} {f : X → Bool} {k : Nat} (hk : k < L.length) (h : f L[k] = true) : L.any f = true := List.any_eq_true.2 ⟨_, List.getElem_mem hk, h⟩
theorem any_none {X : Type} {L : List X} {f : X → Bool} (hno : ∀ j (h : j < L.length), f L[j] = false) : L.any f = false := by
  rw [List.any_eq_false]
  intro x hx
  obtain ⟨i, hi, rfl⟩ := List.getElem_of_mem hx
  rw [hno i hi]; exact Bool.false_ne_true
theorem svB_nx {now : Int} {x : Sv} (h : svB now x = true) : 1 ≤ x.nx ∧ x.nx ≤ 1000000 := by
  unfold svB at h
  simp only [Bool.and_eq_true] at h
  have := h.2.2.2.1
  exact ⟨inB_lo this, inB_hi this⟩
end Go.Proofs.YtemggnmooiaokaaGreat
