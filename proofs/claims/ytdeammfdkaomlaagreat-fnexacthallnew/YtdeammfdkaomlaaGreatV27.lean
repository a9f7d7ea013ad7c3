import Derived.Test.YtdeammfdkaomlaaGreatV26
namespace Go.Proofs.YtdeammfdkaomlaaGreat
open Go.RowKit Go.Deep

theorem IntsOwn.setLow {lo hi : Nat} {w : World} {v : Value} {L : List Int} (h : IntsOwn lo hi w v L) {p : Addr} (hp : p.block < lo) (u : Value) : IntsOwn lo hi (w.setCell p u) v L := by
  rcases h with h | ⟨b, off, cap, h1, h2, h3, h4, h5, h7, h8, h9⟩
  · exact Or.inl h
  · exact Or.inr ⟨b, off, cap, h1, h2, h3, by simpa [World.setCell] using h4, fun i hi' => by rw [cell_setCell_ne _ _ _ _ (by show b ≠ p.block; omega)]; exact h5 i hi', h7, h8, fun i => by rw [World.frozen?_setCell]; exact h9 i⟩
theorem FilledI.own {wr : World} {B : Nat} {L : List Int} {k : Nat} (h : FilledI wr B L k) (hk : L.length ≤ k) (hne : L ≠ []) (hm : L.length ≤ maxLen) : IntsOwn B wr.heap.size wr (.slice (some ⟨B, 0, none⟩) L.length L.length) L := by
  refine Or.inr ⟨B, 0, L.length, rfl, hne, hm, World.rowIs.lt h, fun i hi => ?_, Nat.le_refl _, World.rowIs.lt h, fun i => by rw [Nat.zero_add]; exact World.rowIs.frozen h i⟩
  rw [Nat.zero_add, World.rowIs.cell h hi]
  unfold fillI
  rw [if_pos (by omega), List.getD_eq_getElem?_getD, List.getElem?_eq_getElem hi]; rfl
set_option maxHeartbeats 1000000 in
theorem toIntsO_any (lo : Nat) (v : Value) (L : List Int) (w : World) (hv : IntsIn lo w v L) (hn : L.length ≤ 1048576) :
    Calls Tryz.prog 67 #[v] w fun e w' => ∃ v', e = .returned v' ∧ Below w.heap.size w w' ∧ IntsOwn w.heap.size w'.heap.size w' v' L := by
  by_cases hL : L = []
  · subst hL
    obtain ⟨a, cap, rfl⟩ := hv.form
    clear hv
    have hmk : ∀ u : World, (Instr.makeSlice 51 (.int .i64 0) (.int .i64 0)).run Tryz.prog u = .ok (.slice (some ⟨u.heap.size, 0, none⟩) 0 0) (u.alloc (.cells (madeCells #[.int .i64 0] 0) 3)) :=
      fun u => run_make_row' 51 3 (.int .i64 0) 8 Tryz.underlying51 Tryz.info3 rfl .i64 .i64 0 (by omega) (by omega) u
    go_enter Tryz.func67, Tryz.ntmps67
    go_wp2
    go_loop [4] (fun i => i = .int .i64 0) (fun _ => 0)
    case atStart => rfl
    case round =>
      subst hrel
      go_wp2
      go_ret
      exact ⟨_, rfl, (Below.refl _ _).alloc (Nat.le_refl _) _, Or.inl ⟨_, _, rfl, rfl⟩⟩
  · obtain ⟨b, off, cap, rfl, hm, hbw, hc⟩ := hv.full hL
    clear hv
    have HM : Hid (L.length ≤ maxLen) := hm
    unfold maxLen at hm
    have hmk : ∀ u : World, (Instr.makeSlice 51 (.int .i64 (L.length : Int)) (.int .i64 (L.length : Int))).run Tryz.prog u = .ok (.slice (some ⟨u.heap.size, 0, none⟩) L.length L.length) (u.alloc (.cells (madeCells #[.int .i64 0] L.length) 3)) :=
      fun u => run_make_row' 51 3 (.int .i64 0) 8 Tryz.underlying51 Tryz.info3 rfl .i64 .i64 L.length (by omega) (by omega) u
    go_enter Tryz.func67, Tryz.ntmps67
    go_wp2
    clear hmk
    go_loopw [4] (fun i wr => ∃ k : Nat, i = .int .i64 k ∧ k ≤ L.length ∧ Below w.heap.size w wr ∧ FilledI wr w.heap.size L k) (fun i _ => L.length - (intOf i).toNat)
    case atStart => exact ⟨0, rfl, by omega, (Below.refl _ _).alloc (Nat.le_refl _) _, World.rowIs_made w (.int .i64 0) L.length 3⟩
    case round =>
      obtain ⟨k, rfl, hk, hb, hf⟩ := hrel
      by_cases hlt : k < L.length
      · have hck : wr.cell? ⟨b, off + k, none⟩ = some (.int .i64 L[k]) := by rw [hb.cell (p := ⟨b, off + k, none⟩) hbw]; exact hc k hlt
        have hold : wr.cell? ⟨w.heap.size, k, none⟩ = some _ := World.rowIs.cell hf hlt
        have hfz : wr.frozen? ⟨w.heap.size, k, none⟩ = false := World.rowIs.frozen hf k
        go_wp2
        go_roundw
        case rel => exact ⟨k + 1, by go_num, by omega, hb.setCell (Nat.le_refl _) _, hf.step hlt⟩
        case measure => simp [intOf]; omega
      · go_wp2
        go_ret
        exact ⟨_, rfl, hb, FilledI.own hf (by omega) hL HM.out⟩

set_option maxHeartbeats 1000000 in
theorem toRuleO_any (lo : Nat) (r : Ru) (vv : Value) (w : World) (hv : IntsIn lo w vv r.vb) (hn : r.vb.length ≤ 1048576) :
    Calls Tryz.prog 160 #[.agg #[vv, .string r.kd, .string r.tm, .string r.pf]] w
      fun e w' => ∃ v', e = .returned (.agg #[v', .string r.kd, .string r.tm, .string r.pf]) ∧ Below w.heap.size w w' ∧ IntsOwn w.heap.size w'.heap.size w' v' r.vb := by
  have HV := hide hv
  obtain ⟨a, cap, rfl⟩ := hv.form
  clear hv
  go_enter Tryz.func160, Tryz.ntmps160
  go_wp2_with fail
  refine (toIntsO_any lo _ r.vb _ (HV.out.below ?_) hn).mono ?_
  · exact (((Below.refl _ _).alloc (Nat.le_refl _) _).alloc (by simp) _).alloc (by simp; omega) _
  rintro e w1 ⟨v', rfl, hb, hs⟩
  obtain ⟨a', cap', rfl⟩ := hs.form
  have HS : Hid (IntsOwn (w.heap.size + 3) w1.heap.size w1 (.slice a' r.vb.length cap') r.vb) := hs.wide (by simp) (Nat.le_refl _)
  clear hs
  have hz : w.heap.size + 2 < w1.heap.size := by have := hb.size; simp at this; omega
  have hc : ∀ b o, b < w.heap.size + 3 → w1.cell? ⟨b, o, none⟩ = _ := fun b o h => hb.cell (p := ⟨b, o, none⟩) (by simpa using h)
  have hf : ∀ b o, b < w.heap.size + 3 → w1.frozen? ⟨b, o, none⟩ = _ := fun b o h => hb.frozen (p := ⟨b, o, none⟩) (by simpa using h)
  have HB : Hid (Below w.heap.size w w1) := ((((Below.refl _ _).alloc (Nat.le_refl _) _).alloc (by simp) _).alloc (by simp; omega) _).trans (hb.mono (by simp; omega))
  clear hb
  go_wp2
  refine bodyPost_ret (v := .agg #[.slice a' r.vb.length cap', .string r.kd, .string r.tm, .string r.pf]) (by simp [results, Tryz.results160, go_sem, hc]) rfl ⟨_, rfl, ?_, ?_⟩
  · repeat (refine Below.setCell ?_ (by simp only []; omega) _)
    exact HB.out
  · refine IntsOwn.wide (lo := w.heap.size + 3) (hi := w1.heap.size) ?_ (by omega) (by simp [World.setCell])
    repeat (refine IntsOwn.setLow ?_ (by simp only []; omega) _)
    exact HS.out

set_option maxHeartbeats 1000000 in
theorem toGrO_any (lo : Nat) (x : Gr) (vv0 : Value) (w : World) (hv0 : IntsIn lo w vv0 x.vb) (hn : GrSmall x) :
    Calls Tryz.prog 99 #[.agg #[.int .i64 x.nu, .string x.tw, .string x.gb, vv0, .string x.kd, .string x.tm, .string x.pf]] w
      fun e w' => ∃ z0, e = .returned (.agg #[.int .i64 x.nu, .string x.tw, .string x.gb, z0, .string x.kd, .string x.tm, .string x.pf]) ∧ Below w.heap.size w w' ∧ IntsOwn w.heap.size w'.heap.size w' z0 x.vb := by
  have HV := hide hv0
  obtain ⟨a, cap, rfl⟩ := hv0.form
  have hn' : x.ru.vb.length ≤ 1048576 := hn
  clear hv0 hn
  go_enter Tryz.func99, Tryz.ntmps99
  go_wp2_with fail
  refine (toRuleO_any lo x.ru _ _ (HV.out.below ?_) hn').mono ?_
  · exact (((Below.refl _ _).alloc (Nat.le_refl _) _).alloc (by simp) _).alloc (by simp; omega) _
  rintro e w1 ⟨v', rfl, hb, hs⟩
  obtain ⟨a', cap', rfl⟩ := hs.form
  have HS : Hid (IntsOwn (w.heap.size + 3) w1.heap.size w1 (.slice a' x.ru.vb.length cap') x.vb) := hs.wide (by simp) (Nat.le_refl _)
  clear hs
  have hz : w.heap.size + 2 < w1.heap.size := by have := hb.size; simp at this; omega
  have hc : ∀ b o, b < w.heap.size + 3 → w1.cell? ⟨b, o, none⟩ = _ := fun b o h => hb.cell (p := ⟨b, o, none⟩) (by simpa using h)
  have hf : ∀ b o, b < w.heap.size + 3 → w1.frozen? ⟨b, o, none⟩ = _ := fun b o h => hb.frozen (p := ⟨b, o, none⟩) (by simpa using h)
  have HB : Hid (Below w.heap.size w w1) := ((((Below.refl _ _).alloc (Nat.le_refl _) _).alloc (by simp) _).alloc (by simp; omega) _).trans (hb.mono (by simp; omega))
  clear hb
  go_wp2
  refine bodyPost_ret (v := .agg #[.int .i64 x.nu, .string x.tw, .string x.gb, (.slice a' x.ru.vb.length cap'), .string x.kd, .string x.tm, .string x.pf]) (by simp [results, Tryz.results99, go_sem, hc]; exact ⟨rfl, rfl, rfl⟩) rfl ⟨_, rfl, ?_, ?_⟩
  · repeat (refine Below.setCell ?_ (by simp only []; omega) _)
    exact HB.out
  · refine IntsOwn.wide (lo := w.heap.size + 3) (hi := w1.heap.size) ?_ (by omega) (by simp [World.setCell])
    repeat (refine IntsOwn.setLow ?_ (by simp only []; omega) _)
    exact HS.out
def GrsFillO (wr : World) (B : Nat) (Xl : List Gr) (k : Nat) (c : Nat → Nat) : Prop :=
  B < c 0 ∧ (∀ i, i < k → c i ≤ c (i + 1)) ∧ c k ≤ wr.heap.size ∧ ∃ f, wr.rowIs B 133 (Xl.length * 7) f ∧ ∀ i (h : i < Xl.length), i < k → GrSize Xl[i] ∧ ∃ (vv0 : Value), (c i) ≤ (c (i + 1)) ∧ f (i * 7) = .int .i64 Xl[i].nu ∧ f (i * 7 + 1) = .string Xl[i].tw ∧ f (i * 7 + 2) = .string Xl[i].gb ∧ f (i * 7 + 3) = vv0 ∧ f (i * 7 + 4) = .string Xl[i].kd ∧ f (i * 7 + 5) = .string Xl[i].tm ∧ f (i * 7 + 6) = .string Xl[i].pf ∧ IntsOwn (c i) (c (i + 1)) wr vv0 Xl[i].vb
theorem GrsFillO.le {wr : World} {B : Nat} {Xl : List Gr} {k : Nat} {c : Nat → Nat} (h : GrsFillO wr B Xl k c) {i : Nat} : ∀ {j : Nat}, i ≤ j → j ≤ k → c i ≤ c j := by
  intro j
  induction j with
  | zero => intro hij _; have : i = 0 := by omega
            subst this; exact Nat.le_refl _
  | succ j ih =>
    intro hij hjn
    by_cases e : i = j + 1
    · subst e; exact Nat.le_refl _
    · exact Nat.le_trans (ih (by omega) (by omega)) (h.2.1 j (by omega))
theorem GrsFillO.below {wr w1 : World} {B : Nat} {Xl : List Gr} {k : Nat} {c : Nat → Nat} (h : GrsFillO wr B Xl k c) (hb : Below wr.heap.size wr w1) : GrsFillO w1 B Xl k c := by
  obtain ⟨g1, g2, g3, f, hr, hall⟩ := h
  refine ⟨g1, g2, Nat.le_trans g3 hb.size, f, hr.of_block (hb.block B hr.lt), fun i hi hik => ?_⟩
  obtain ⟨hz, vv0, q0, h0, h1, h2, h3, h4, h5, h6, l0⟩ := hall i hi hik
  exact ⟨hz, vv0, q0, h0, h1, h2, h3, h4, h5, h6, l0.below hb⟩
theorem GrsFillO.free {wr : World} {B : Nat} {Xl : List Gr} {k : Nat} {c : Nat → Nat} (h : GrsFillO wr B Xl k c) (i : Nat) : wr.frozen? ⟨B, i, none⟩ = false := by
  obtain ⟨_, _, _, f, hr, _⟩ := h
  exact hr.frozen i
theorem GrsFillO.there {wr : World} {B : Nat} {Xl : List Gr} {k : Nat} {c : Nat → Nat} (h : GrsFillO wr B Xl k c) (i : Nat) (hi : i < Xl.length * 7) : ∃ v, wr.cell? ⟨B, i, none⟩ = some v := by
  obtain ⟨_, _, _, f, hr, _⟩ := h
  exact ⟨_, hr.cell hi⟩
theorem GrsFillO.lt {wr : World} {B : Nat} {Xl : List Gr} {k : Nat} {c : Nat → Nat} (h : GrsFillO wr B Xl k c) : B < wr.heap.size := by
  obtain ⟨_, _, _, f, hr, _⟩ := h
  exact hr.lt
theorem GrsFillO.step {w1 : World} {B : Nat} {Xl : List Gr} {k : Nat} {c : Nat → Nat} {vv0 : Value} (h : GrsFillO w1 B Xl k c) (hk : k < Xl.length) (hz : GrSize Xl[k]) (d : Nat) (hd0 : c k ≤ d) (hd : d ≤ w1.heap.size) (r0 : (c k) ≤ d) (e0 : IntsOwn (c k) d w1 vv0 Xl[k].vb) :
    GrsFillO (((((((w1.setCell ⟨B, k * 7, none⟩ (.int .i64 Xl[k].nu)).setCell ⟨B, k * 7 + 1, none⟩ (.string Xl[k].tw)).setCell ⟨B, k * 7 + 2, none⟩ (.string Xl[k].gb)).setCell ⟨B, k * 7 + 3, none⟩ (vv0)).setCell ⟨B, k * 7 + 4, none⟩ (.string Xl[k].kd)).setCell ⟨B, k * 7 + 5, none⟩ (.string Xl[k].tm)).setCell ⟨B, k * 7 + 6, none⟩ (.string Xl[k].pf)) B Xl (k + 1) (fun j => if j ≤ k then c j else d) := by
  have hle := fun i (hi : i ≤ k) => h.le (i := 0) (j := i) (Nat.zero_le _) hi
  have hle2 := fun i (hi : i < k) => h.le (i := i + 1) (j := k) (by omega) (Nat.le_refl _)
  obtain ⟨g1, g2, g3, f, hr, hall⟩ := h
  have hts : Touch B (B + 1) w1 (((((((w1.setCell ⟨B, k * 7, none⟩ (.int .i64 Xl[k].nu)).setCell ⟨B, k * 7 + 1, none⟩ (.string Xl[k].tw)).setCell ⟨B, k * 7 + 2, none⟩ (.string Xl[k].gb)).setCell ⟨B, k * 7 + 3, none⟩ (vv0)).setCell ⟨B, k * 7 + 4, none⟩ (.string Xl[k].kd)).setCell ⟨B, k * 7 + 5, none⟩ (.string Xl[k].tm)).setCell ⟨B, k * 7 + 6, none⟩ (.string Xl[k].pf)) := ((((((Touch.setB B _ _ _).trans (Touch.setB B _ _ _)).trans (Touch.setB B _ _ _)).trans (Touch.setB B _ _ _)).trans (Touch.setB B _ _ _)).trans (Touch.setB B _ _ _)).trans (Touch.setB B _ _ _)
  refine ⟨by simpa using g1, fun i hi => ?_, ?_, _, (((((((hr.set _ _).set _ _).set _ _).set _ _).set _ _).set _ _).set _ _), fun i hi hik => ?_⟩
  · dsimp only
    by_cases e : i = k
    · subst e; rw [if_pos (Nat.le_refl _), if_neg (by omega)]; exact hd0
    · rw [if_pos (by omega), if_pos (by omega)]; exact g2 i (by omega)
  · dsimp only; rw [if_neg (by omega)]; exact Nat.le_trans hd hts.size
  by_cases e : i = k
  · subst e
    dsimp only
    rw [if_pos (Nat.le_refl _), if_neg (by omega)]
    have hb0 := hle i (Nat.le_refl _)
    exact ⟨hz, vv0, r0, by simp, by simp, by simp, by simp, by simp, by simp, by simp, e0.touch hts (by omega)⟩
  · dsimp only
    rw [if_pos (by omega), if_pos (by omega)]
    have hb0 := hle i (by omega)
    obtain ⟨hz, vv0, q0, h0, h1, h2, h3, h4, h5, h6, l0⟩ := hall i hi (by omega)
    refine ⟨hz, vv0, q0, ?_, ?_, ?_, ?_, ?_, ?_, ?_, l0.touch hts (by omega)⟩
    · rw [if_neg (by omega), if_neg (by omega), if_neg (by omega), if_neg (by omega), if_neg (by omega), if_neg (by omega), if_neg (by omega)]; exact h0
    · rw [if_neg (by omega), if_neg (by omega), if_neg (by omega), if_neg (by omega), if_neg (by omega), if_neg (by omega), if_neg (by omega)]; exact h1
    · rw [if_neg (by omega), if_neg (by omega), if_neg (by omega), if_neg (by omega), if_neg (by omega), if_neg (by omega), if_neg (by omega)]; exact h2
    · rw [if_neg (by omega), if_neg (by omega), if_neg (by omega), if_neg (by omega), if_neg (by omega), if_neg (by omega), if_neg (by omega)]; exact h3
    · rw [if_neg (by omega), if_neg (by omega), if_neg (by omega), if_neg (by omega), if_neg (by omega), if_neg (by omega), if_neg (by omega)]; exact h4
    · rw [if_neg (by omega), if_neg (by omega), if_neg (by omega), if_neg (by omega), if_neg (by omega), if_neg (by omega), if_neg (by omega)]; exact h5
    · rw [if_neg (by omega), if_neg (by omega), if_neg (by omega), if_neg (by omega), if_neg (by omega), if_neg (by omega), if_neg (by omega)]; exact h6
theorem GrsFillO.own {wr : World} {B : Nat} {Xl : List Gr} {k : Nat} {c : Nat → Nat} (h : GrsFillO wr B Xl k c) (hk : k = Xl.length) (hne : Xl ≠ []) (hm : Xl.length ≤ maxLen) : GrsOwn B wr.heap.size wr (.slice (some ⟨B, 0, none⟩) Xl.length Xl.length) Xl := by
  subst hk
  have hle := fun i (hi : i ≤ Xl.length) => h.le (i := 0) (j := i) (Nat.zero_le _) hi
  have hle2 := fun i (hi : i < Xl.length) => h.le (i := i + 1) (j := Xl.length) (by omega) (Nat.le_refl _)
  have hle3 := fun i j (hi : i < j) (hj : j < Xl.length) => h.le (i := i + 1) (j := j) (by omega) (by omega)
  obtain ⟨g1, g2, g3, f, hr, hall⟩ := h
  have h0 : 0 < Xl.length := List.length_pos_iff.2 hne
  refine Or.inr ⟨B, 0, Xl.length, fun i => (c i, c (i + 1)), fun i => if h : i < Xl.length then Xl[i] else Xl[0], rfl, hne, hm, Nat.le_refl _, fun i hi => by simp [hi], hr.lt, Nat.le_refl _, hr.lt, fun i hi => ⟨by have := hle i (by omega); simp only []; omega, by have := hle2 i hi; simp only []; omega, Or.inl (by have := hle i (by omega); simp only []; omega)⟩, hle3, fun i => hr.frozen i, fun i hi => ?_⟩
  obtain ⟨hz, vv0, q0, h0, h1, h2, h3, h4, h5, h6, l0⟩ := hall i hi hi
  simp only [hi, dif_pos]
  rw [Nat.zero_add]
  exact ⟨hz, vv0, q0, ⟨by rw [hr.cell (by omega), h0], by rw [hr.cell (by omega), h1], by rw [hr.cell (by omega), h2], by rw [hr.cell (by omega), h3], by rw [hr.cell (by omega), h4], by rw [hr.cell (by omega), h5], by rw [hr.cell (by omega), h6]⟩, l0⟩
theorem GrsFillO.new (w : World) (Xl : List Gr) (z : Array Value) : GrsFillO (w.alloc (.cells (madeCells z (Xl.length * 7)) 133)) w.heap.size Xl 0 (fun _ => w.heap.size + 1) := by
  refine ⟨Nat.lt_succ_self _, fun i hi => by omega, by simp, fun i => (madeCells z (Xl.length * 7)).getD i default, ?_, fun i _ h => by omega⟩
  have := World.rowIs_alloc w (madeCells z (Xl.length * 7)) 133 (fun i => (madeCells z (Xl.length * 7)).getD i default) (fun i hi => by simp [Array.getD, hi])
  rwa [size_madeCells] at this
set_option maxHeartbeats 4000000 in
theorem toGrsO_any (lo : Nat) (v : Value) (Xl : List Gr) (w : World) (hv : GrsAt lo w v Xl) (hn : GrsSmall Xl) :
    Calls Tryz.prog 31 #[v] w fun e w' => ∃ v', e = .returned v' ∧ Below w.heap.size w w' ∧ GrsOwn w.heap.size w'.heap.size w' v' Xl := by
  obtain ⟨i0, hi, hz0, hz1, hz2⟩ := info_parts Tryz.info133
  have HSM := hide hn.2
  have hn1 := hn.1
  clear hn
  by_cases hL : Xl = []
  · subst hL
    obtain ⟨a, cap, rfl⟩ := hv.form
    clear hv
    have hmk : ∀ u : World, (Instr.makeSlice 28 (.int .i64 0) (.int .i64 0)).run Tryz.prog u = .ok (.slice (some ⟨u.heap.size, 0, none⟩) 0 0) (u.alloc (.cells (madeCells (Value.cells (.agg #[.int .i64 0, .string ⟨#[]⟩, .string ⟨#[]⟩, .slice none 0 0, .string ⟨#[]⟩, .string ⟨#[]⟩, .string ⟨#[]⟩])) 0) 133)) := fun u => by
      have h := run_make (P := Tryz.prog) u 28 133 i0 _ Tryz.underlying28 hi hz0 .i64 .i64 0 0 (by omega) (by omega) (by omega) (by omega)
      simpa [hz1] using h
    go_enter Tryz.func31, Tryz.ntmps31
    go_wp2
    go_loop [4] (fun i => i = .int .i64 0) (fun _ => 0)
    case atStart => rfl
    case round =>
      subst hrel
      go_wp2
      go_ret
      exact ⟨_, rfl, (Below.refl _ _).alloc (Nat.le_refl _) _, Or.inl ⟨_, _, rfl, rfl⟩⟩
  · obtain ⟨b, off, cap, rfl, hm, hbw, _, hc⟩ := hv.full hL
    clear hv
    have HM : Hid (Xl.length ≤ maxLen) := hm
    unfold maxLen at hm
    have hmk : ∀ u : World, (Instr.makeSlice 28 (.int .i64 (Xl.length : Int)) (.int .i64 (Xl.length : Int))).run Tryz.prog u = .ok (.slice (some ⟨u.heap.size, 0, none⟩) Xl.length Xl.length) (u.alloc (.cells (madeCells (Value.cells (.agg #[.int .i64 0, .string ⟨#[]⟩, .string ⟨#[]⟩, .slice none 0 0, .string ⟨#[]⟩, .string ⟨#[]⟩, .string ⟨#[]⟩])) (Xl.length * 7)) 133)) := fun u => by
      have h := run_make (P := Tryz.prog) u 28 133 i0 _ Tryz.underlying28 hi hz0 .i64 .i64 Xl.length Xl.length (by omega) (by omega) (by rw [hz2]; omega) (by omega)
      rw [hz1] at h
      simpa using h
    clear hi hz0 hz1 hz2
    go_enter Tryz.func31, Tryz.ntmps31
    go_wp2
    clear hmk
    go_loopw [4] (fun i wr => ∃ (k : Nat) (c : Nat → Nat), i = .int .i64 k ∧ k ≤ Xl.length ∧ Below w.heap.size w wr ∧ GrsFillO wr w.heap.size Xl k c) (fun i _ => Xl.length - (intOf i).toNat)
    case atStart => exact ⟨0, _, rfl, by omega, (Below.refl _ _).alloc (Nat.le_refl _) _, GrsFillO.new w Xl _⟩
    case round =>
      obtain ⟨k, c, rfl, hk, hb, hf⟩ := hrel
      by_cases hlt : k < Xl.length
      · obtain ⟨hs, vv0, hc, hv0⟩ := hc k hlt
        have HB := hide hb
        have HF := hide hf
        have HSZ := hide hs
        obtain ⟨x0, y0, rfl⟩ := hv0.form
        obtain ⟨c0, c1, c2, c3, c4, c5, c6⟩ := hc.below hb hbw
        have HV0 := hide (hv0.below hb)
        clear hv0
        clear hc hb hf hs
        go_wp2_with fail
        refine (toGrO_any 0 Xl[k] _ _ (HV0.out.mono (Nat.zero_le _)) (HSM.out k hlt)).mono ?_
        rintro e w1 ⟨z0, rfl, hb1, hO0⟩
        obtain ⟨s0, t0, rfl⟩ := hO0.form
        have hf1 := HF.out.below hb1
        have hB : Hid (Below w.heap.size w w1) := HB.out.trans (hb1.mono HB.out.size)
        have HST := hide (hf1.step hlt HSZ.out w1.heap.size (Nat.le_trans HF.out.2.2.1 hb1.size) (Nat.le_refl _) (Nat.le_trans HF.out.2.2.1 hb1.size) (hO0.wide HF.out.2.2.1 (Nat.le_refl _)))
        have hfr := hf1.free
        obtain ⟨o0, ho0⟩ := hf1.there (k * 7) (by omega)
        obtain ⟨o1, ho1⟩ := hf1.there (k * 7 + 1) (by omega)
        obtain ⟨o2, ho2⟩ := hf1.there (k * 7 + 2) (by omega)
        obtain ⟨o3, ho3⟩ := hf1.there (k * 7 + 3) (by omega)
        obtain ⟨o4, ho4⟩ := hf1.there (k * 7 + 4) (by omega)
        obtain ⟨o5, ho5⟩ := hf1.there (k * 7 + 5) (by omega)
        obtain ⟨o6, ho6⟩ := hf1.there (k * 7 + 6) (by omega)
        clear hf1 hb1 HF HB c0 c1 c2 c3 c4 c5 c6
        go_wp2
        go_roundw
        case rel =>
          exact ⟨k + 1, _, by go_num, by omega, (((((((hB.out.setCell (Nat.le_refl _) _).setCell (Nat.le_refl _) _).setCell (Nat.le_refl _) _).setCell (Nat.le_refl _) _).setCell (Nat.le_refl _) _).setCell (Nat.le_refl _) _).setCell (Nat.le_refl _) _), HST.out⟩
        case measure => simp [intOf]; omega
      · have e : k = Xl.length := by omega
        go_wp2
        go_ret
        exact ⟨_, rfl, hb, hf.own e hL HM.out⟩
end Go.Proofs.YtdeammfdkaomlaaGreat
