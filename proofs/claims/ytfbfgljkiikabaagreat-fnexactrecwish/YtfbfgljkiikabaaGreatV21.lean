import Derived.Test.YtfbfgljkiikabaaGreatV16
import Derived.Test.YtfbfgljkiikabaaGreatV20
namespace Go.Proofs.YtfbfgljkiikabaaGreat
open Go.RowKit Go.Deep

theorem RmsAt.full {lo : Nat} {w : World} {v : Value} {Xl : List Rm} (h : RmsAt lo w v Xl) (hne : Xl ≠ []) : ∃ (b off cap : Nat), v = .slice (some ⟨b, off, none⟩) Xl.length cap ∧ Xl.length ≤ maxLen ∧ b < w.heap.size ∧ Xl.length ≤ cap ∧
    ∀ i (h : i < Xl.length), RmSize Xl[i] ∧ ∃ vv0, RmCells w b (off + i * 8) Xl[i] vv0 ∧ RssAt lo w vv0 Xl[i].sl := by
  rcases h with ⟨_, _, _, h⟩ | ⟨b, off, cap, h1, _, h3, h4, _, h6, h7⟩
  · exact absurd h hne
  · refine ⟨b, off, cap, h1, h3, h4, h6, fun i hi => ?_⟩
    obtain ⟨cs, hr, a0, k0, rfl, hf⟩ := h7 i hi
    exact ⟨⟨hf.s0⟩, .slice a0 Xl[i].sl.length k0, ⟨hr 0 _ rfl, hr 1 _ rfl, hr 2 _ rfl, hr 3 _ rfl, hr 4 _ rfl, hr 5 _ rfl, hr 6 _ rfl, hr 7 _ rfl⟩, hf.l0⟩
def RmsFillO (wr : World) (B : Nat) (Xl : List Rm) (k : Nat) (c : Nat → Nat) : Prop :=
  B < c 0 ∧ (∀ i, i < k → c i ≤ c (i + 1)) ∧ c k ≤ wr.heap.size ∧ ∃ f, wr.rowIs B 45 (Xl.length * 8) f ∧ ∀ i (h : i < Xl.length), i < k → RmSize Xl[i] ∧ ∃ (vv0 : Value), (c i) ≤ (c (i + 1)) ∧ f (i * 8) = .int .i64 Xl[i].kd ∧ f (i * 8 + 1) = .int .i64 Xl[i].fr ∧ f (i * 8 + 2) = .int .i64 Xl[i].tt ∧ f (i * 8 + 3) = .int .i64 Xl[i].ba ∧ f (i * 8 + 4) = .int .i64 Xl[i].ix ∧ f (i * 8 + 5) = .int .i64 Xl[i].kn ∧ f (i * 8 + 6) = .string Xl[i].tx ∧ f (i * 8 + 7) = vv0 ∧ RssOwn (c i) (c (i + 1)) wr vv0 Xl[i].sl
theorem RmsFillO.le {wr : World} {B : Nat} {Xl : List Rm} {k : Nat} {c : Nat → Nat} (h : RmsFillO wr B Xl k c) {i : Nat} : ∀ {j : Nat}, i ≤ j → j ≤ k → c i ≤ c j := by
  intro j
  induction j with
  | zero => intro hij _; have : i = 0 := by omega
            subst this; exact Nat.le_refl _
  | succ j ih =>
    intro hij hjn
    by_cases e : i = j + 1
    · subst e; exact Nat.le_refl _
    · exact Nat.le_trans (ih (by omega) (by omega)) (h.2.1 j (by omega))
theorem RmsFillO.below {wr w1 : World} {B : Nat} {Xl : List Rm} {k : Nat} {c : Nat → Nat} (h : RmsFillO wr B Xl k c) (hb : Below wr.heap.size wr w1) : RmsFillO w1 B Xl k c := by
  obtain ⟨g1, g2, g3, f, hr, hall⟩ := h
  refine ⟨g1, g2, Nat.le_trans g3 hb.size, f, hr.of_block (hb.block B hr.lt), fun i hi hik => ?_⟩
  obtain ⟨hz, vv0, q0, h0, h1, h2, h3, h4, h5, h6, h7, l0⟩ := hall i hi hik
  exact ⟨hz, vv0, q0, h0, h1, h2, h3, h4, h5, h6, h7, l0.below hb⟩
theorem RmsFillO.free {wr : World} {B : Nat} {Xl : List Rm} {k : Nat} {c : Nat → Nat} (h : RmsFillO wr B Xl k c) (i : Nat) : wr.frozen? ⟨B, i, none⟩ = false := by
  obtain ⟨_, _, _, f, hr, _⟩ := h
  exact hr.frozen i
theorem RmsFillO.there {wr : World} {B : Nat} {Xl : List Rm} {k : Nat} {c : Nat → Nat} (h : RmsFillO wr B Xl k c) (i : Nat) (hi : i < Xl.length * 8) : ∃ v, wr.cell? ⟨B, i, none⟩ = some v := by
  obtain ⟨_, _, _, f, hr, _⟩ := h
  exact ⟨_, hr.cell hi⟩
theorem RmsFillO.lt {wr : World} {B : Nat} {Xl : List Rm} {k : Nat} {c : Nat → Nat} (h : RmsFillO wr B Xl k c) : B < wr.heap.size := by
  obtain ⟨_, _, _, f, hr, _⟩ := h
  exact hr.lt
theorem RmsFillO.step {w1 : World} {B : Nat} {Xl : List Rm} {k : Nat} {c : Nat → Nat} {vv0 : Value} (h : RmsFillO w1 B Xl k c) (hk : k < Xl.length) (hz : RmSize Xl[k]) (d : Nat) (hd0 : c k ≤ d) (hd : d ≤ w1.heap.size) (r0 : (c k) ≤ d) (e0 : RssOwn (c k) d w1 vv0 Xl[k].sl) :
    RmsFillO ((((((((w1.setCell ⟨B, k * 8, none⟩ (.int .i64 Xl[k].kd)).setCell ⟨B, k * 8 + 1, none⟩ (.int .i64 Xl[k].fr)).setCell ⟨B, k * 8 + 2, none⟩ (.int .i64 Xl[k].tt)).setCell ⟨B, k * 8 + 3, none⟩ (.int .i64 Xl[k].ba)).setCell ⟨B, k * 8 + 4, none⟩ (.int .i64 Xl[k].ix)).setCell ⟨B, k * 8 + 5, none⟩ (.int .i64 Xl[k].kn)).setCell ⟨B, k * 8 + 6, none⟩ (.string Xl[k].tx)).setCell ⟨B, k * 8 + 7, none⟩ (vv0)) B Xl (k + 1) (fun j => if j ≤ k then c j else d) := by
  have hle := fun i (hi : i ≤ k) => h.le (i := 0) (j := i) (Nat.zero_le _) hi
  have hle2 := fun i (hi : i < k) => h.le (i := i + 1) (j := k) (by omega) (Nat.le_refl _)
  obtain ⟨g1, g2, g3, f, hr, hall⟩ := h
  have hts : Touch B (B + 1) w1 ((((((((w1.setCell ⟨B, k * 8, none⟩ (.int .i64 Xl[k].kd)).setCell ⟨B, k * 8 + 1, none⟩ (.int .i64 Xl[k].fr)).setCell ⟨B, k * 8 + 2, none⟩ (.int .i64 Xl[k].tt)).setCell ⟨B, k * 8 + 3, none⟩ (.int .i64 Xl[k].ba)).setCell ⟨B, k * 8 + 4, none⟩ (.int .i64 Xl[k].ix)).setCell ⟨B, k * 8 + 5, none⟩ (.int .i64 Xl[k].kn)).setCell ⟨B, k * 8 + 6, none⟩ (.string Xl[k].tx)).setCell ⟨B, k * 8 + 7, none⟩ (vv0)) := (((((((Touch.setB B _ _ _).trans (Touch.setB B _ _ _)).trans (Touch.setB B _ _ _)).trans (Touch.setB B _ _ _)).trans (Touch.setB B _ _ _)).trans (Touch.setB B _ _ _)).trans (Touch.setB B _ _ _)).trans (Touch.setB B _ _ _)
  refine ⟨by simpa using g1, fun i hi => ?_, ?_, _, ((((((((hr.set _ _).set _ _).set _ _).set _ _).set _ _).set _ _).set _ _).set _ _), fun i hi hik => ?_⟩
  · dsimp only
    by_cases e : i = k
    · subst e; rw [if_pos (Nat.le_refl _), if_neg (by omega)]; exact hd0
    · rw [if_pos (by omega), if_pos (by omega)]; exact g2 i (by omega)
  · dsimp only; rw [if_neg (by omega)]; exact Nat.le_trans hd hts.size
  by_cases e : i = k
  · subst e
    dsimp only
    rw [if_pos (Nat.le_refl _), if_neg (by omega)]
    have hb0 := hle i (Nat.le_refl _)
    exact ⟨hz, vv0, r0, by simp, by simp, by simp, by simp, by simp, by simp, by simp, by simp, e0.touch hts (by omega)⟩
  · dsimp only
    rw [if_pos (by omega), if_pos (by omega)]
    have hb0 := hle i (by omega)
    obtain ⟨hz, vv0, q0, h0, h1, h2, h3, h4, h5, h6, h7, l0⟩ := hall i hi (by omega)
    refine ⟨hz, vv0, q0, ?_, ?_, ?_, ?_, ?_, ?_, ?_, ?_, l0.touch hts (by omega)⟩
    · rw [if_neg (by omega), if_neg (by omega), if_neg (by omega), if_neg (by omega), if_neg (by omega), if_neg (by omega), if_neg (by omega), if_neg (by omega)]; exact h0
    · rw [if_neg (by omega), if_neg (by omega), if_neg (by omega), if_neg (by omega), if_neg (by omega), if_neg (by omega), if_neg (by omega), if_neg (by omega)]; exact h1
    · rw [if_neg (by omega), if_neg (by omega), if_neg (by omega), if_neg (by omega), if_neg (by omega), if_neg (by omega), if_neg (by omega), if_neg (by omega)]; exact h2
    · rw [if_neg (by omega), if_neg (by omega), if_neg (by omega), if_neg (by omega), if_neg (by omega), if_neg (by omega), if_neg (by omega), if_neg (by omega)]; exact h3
    · rw [if_neg (by omega), if_neg (by omega), if_neg (by omega), if_neg (by omega), if_neg (by omega), if_neg (by omega), if_neg (by omega), if_neg (by omega)]; exact h4
    · rw [if_neg (by omega), if_neg (by omega), if_neg (by omega), if_neg (by omega), if_neg (by omega), if_neg (by omega), if_neg (by omega), if_neg (by omega)]; exact h5
    · rw [if_neg (by omega), if_neg (by omega), if_neg (by omega), if_neg (by omega), if_neg (by omega), if_neg (by omega), if_neg (by omega), if_neg (by omega)]; exact h6
    · rw [if_neg (by omega), if_neg (by omega), if_neg (by omega), if_neg (by omega), if_neg (by omega), if_neg (by omega), if_neg (by omega), if_neg (by omega)]; exact h7
theorem RmsFillO.own {wr : World} {B : Nat} {Xl : List Rm} {k : Nat} {c : Nat → Nat} (h : RmsFillO wr B Xl k c) (hk : k = Xl.length) (hne : Xl ≠ []) (hm : Xl.length ≤ maxLen) : RmsOwn B wr.heap.size wr (.slice (some ⟨B, 0, none⟩) Xl.length Xl.length) Xl := by
  subst hk
  have hle := fun i (hi : i ≤ Xl.length) => h.le (i := 0) (j := i) (Nat.zero_le _) hi
  have hle2 := fun i (hi : i < Xl.length) => h.le (i := i + 1) (j := Xl.length) (by omega) (Nat.le_refl _)
  have hle3 := fun i j (hi : i < j) (hj : j < Xl.length) => h.le (i := i + 1) (j := j) (by omega) (by omega)
  obtain ⟨g1, g2, g3, f, hr, hall⟩ := h
  have h0 : 0 < Xl.length := List.length_pos_iff.2 hne
  refine Or.inr ⟨B, 0, Xl.length, fun i => (c i, c (i + 1)), fun i => if h : i < Xl.length then Xl[i] else Xl[0], rfl, hne, hm, Nat.le_refl _, fun i hi => by simp [hi], hr.lt, Nat.le_refl _, hr.lt, fun i hi => ⟨by have := hle i (by omega); simp only []; omega, by have := hle2 i hi; simp only []; omega, Or.inl (by have := hle i (by omega); simp only []; omega)⟩, fun i j hi hj hne => by
    rcases Nat.lt_or_ge i j with h | h
    · exact Or.inl (hle3 i j h hj)
    · exact Or.inr (hle3 j i (by omega) hi), fun i => hr.frozen i, fun i hi => ?_⟩
  obtain ⟨hz, vv0, q0, h0, h1, h2, h3, h4, h5, h6, h7, l0⟩ := hall i hi hi
  simp only [hi, dif_pos]
  rw [Nat.zero_add]
  exact ⟨hz, vv0, q0, ⟨by rw [hr.cell (by omega), h0], by rw [hr.cell (by omega), h1], by rw [hr.cell (by omega), h2], by rw [hr.cell (by omega), h3], by rw [hr.cell (by omega), h4], by rw [hr.cell (by omega), h5], by rw [hr.cell (by omega), h6], by rw [hr.cell (by omega), h7]⟩, l0⟩
theorem RmsFillO.new (w : World) (Xl : List Rm) (z : Array Value) : RmsFillO (w.alloc (.cells (madeCells z (Xl.length * 8)) 45)) w.heap.size Xl 0 (fun _ => w.heap.size + 1) := by
  refine ⟨Nat.lt_succ_self _, fun i hi => by omega, by simp, fun i => (madeCells z (Xl.length * 8)).getD i default, ?_, fun i _ h => by omega⟩
  have := World.rowIs_alloc w (madeCells z (Xl.length * 8)) 45 (fun i => (madeCells z (Xl.length * 8)).getD i default) (fun i hi => by simp [Array.getD, hi])
  rwa [size_madeCells] at this
set_option maxHeartbeats 4000000 in
theorem toRmsO_any (lo : Nat) (v : Value) (Xl : List Rm) (w : World) (hv : RmsAt lo w v Xl) (hn : RmsSmall Xl) :
    Calls Tryz.prog 36 #[v] w fun e w' => ∃ v', e = .returned v' ∧ Below w.heap.size w w' ∧ RmsOwn w.heap.size w'.heap.size w' v' Xl := by
  obtain ⟨i0, hi, hz0, hz1, hz2⟩ := info_parts Rm_info
  have HSM := hide hn.2
  have hn1 := hn.1
  clear hn
  by_cases hL : Xl = []
  · subst hL
    obtain ⟨a, cap, rfl⟩ := hv.form
    clear hv
    have hmk : ∀ u : World, (Instr.makeSlice 38 (.int .i64 0) (.int .i64 0)).run Tryz.prog u = .ok (.slice (some ⟨u.heap.size, 0, none⟩) 0 0) (u.alloc (.cells (madeCells (Value.cells (.agg #[.int .i64 0, .int .i64 0, .int .i64 0, .int .i64 0, .int .i64 0, .int .i64 0, .string ⟨#[]⟩, .slice none 0 0])) 0) 45)) := fun u => by
      have h := run_make (P := Tryz.prog) u 38 45 i0 _ Tryz.underlying38 hi hz0 .i64 .i64 0 0 (by omega) (by omega) (by omega) (by omega)
      simpa [hz1] using h
    go_enter Tryz.func36, Tryz.ntmps36
    go_wp2
    go_loop [4] (fun i => i = .int .i64 0) (fun _ => 0)
    case atStart => rfl
    case round =>
      subst hrel
      go_wp2
      go_ret
      exact ⟨_, rfl, (Below.refl _ _).alloc (Nat.le_refl _) _, Or.inl ⟨_, _, rfl, rfl⟩⟩
  · obtain ⟨b, off, cap, rfl, hm, hbw, _, hc⟩ := hv.full hL
    clear hv
    have HM : Hid (Xl.length ≤ maxLen) := hm
    unfold maxLen at hm
    have hmk : ∀ u : World, (Instr.makeSlice 38 (.int .i64 (Xl.length : Int)) (.int .i64 (Xl.length : Int))).run Tryz.prog u = .ok (.slice (some ⟨u.heap.size, 0, none⟩) Xl.length Xl.length) (u.alloc (.cells (madeCells (Value.cells (.agg #[.int .i64 0, .int .i64 0, .int .i64 0, .int .i64 0, .int .i64 0, .int .i64 0, .string ⟨#[]⟩, .slice none 0 0])) (Xl.length * 8)) 45)) := fun u => by
      have h := run_make (P := Tryz.prog) u 38 45 i0 _ Tryz.underlying38 hi hz0 .i64 .i64 Xl.length Xl.length (by omega) (by omega) (by rw [hz2]; omega) (by omega)
      rw [hz1] at h
      simpa using h
    clear hi hz0 hz1 hz2
    go_enter Tryz.func36, Tryz.ntmps36
    go_wp2
    clear hmk
    go_loopw [4] (fun i wr => ∃ (k : Nat) (c : Nat → Nat), i = .int .i64 k ∧ k ≤ Xl.length ∧ Below w.heap.size w wr ∧ RmsFillO wr w.heap.size Xl k c) (fun i _ => Xl.length - (intOf i).toNat)
    case atStart => exact ⟨0, _, rfl, by omega, (Below.refl _ _).alloc (Nat.le_refl _) _, RmsFillO.new w Xl _⟩
    case round =>
      obtain ⟨k, c, rfl, hk, hb, hf⟩ := hrel
      by_cases hlt : k < Xl.length
      · obtain ⟨hs, vv0, hc, hv0⟩ := hc k hlt
        have HB := hide hb
        have HF := hide hf
        have HSZ := hide hs
        obtain ⟨x0, y0, rfl⟩ := hv0.form
        obtain ⟨c0, c1, c2, c3, c4, c5, c6, c7⟩ := hc.below hb hbw
        have HV0 := hide (hv0.below hb)
        clear hv0
        clear hc hb hf hs
        go_wp2_with fail
        refine (toRmO_any 0 _ Xl[k] _ ⟨_, _, rfl, ⟨HV0.out.mono (Nat.zero_le _), HSZ.out.s0⟩⟩ (HSM.out k hlt)).mono ?_
        rintro e w1 ⟨s0, t0, rfl, hb1, hO0⟩
        rw [show (rmL Xl[k] s0 t0).toArray = #[.int .i64 Xl[k].kd, .int .i64 Xl[k].fr, .int .i64 Xl[k].tt, .int .i64 Xl[k].ba, .int .i64 Xl[k].ix, .int .i64 Xl[k].kn, .string Xl[k].tx, .slice s0 Xl[k].sl.length t0] from rfl]
        have hf1 := HF.out.below hb1
        have hB : Hid (Below w.heap.size w w1) := HB.out.trans (hb1.mono HB.out.size)
        have HST := hide (hf1.step hlt HSZ.out w1.heap.size (Nat.le_trans HF.out.2.2.1 hb1.size) (Nat.le_refl _) (Nat.le_trans HF.out.2.2.1 hb1.size) (hO0.wide HF.out.2.2.1 (Nat.le_refl _)))
        have hfr := hf1.free
        obtain ⟨o0, ho0⟩ := hf1.there (k * 8) (by omega)
        obtain ⟨o1, ho1⟩ := hf1.there (k * 8 + 1) (by omega)
        obtain ⟨o2, ho2⟩ := hf1.there (k * 8 + 2) (by omega)
        obtain ⟨o3, ho3⟩ := hf1.there (k * 8 + 3) (by omega)
        obtain ⟨o4, ho4⟩ := hf1.there (k * 8 + 4) (by omega)
        obtain ⟨o5, ho5⟩ := hf1.there (k * 8 + 5) (by omega)
        obtain ⟨o6, ho6⟩ := hf1.there (k * 8 + 6) (by omega)
        obtain ⟨o7, ho7⟩ := hf1.there (k * 8 + 7) (by omega)
        clear hf1 hb1 HF HB c0 c1 c2 c3 c4 c5 c6 c7
        go_wp2
        go_roundw
        case rel =>
          exact ⟨k + 1, _, by go_num, by omega, ((((((((hB.out.setCell (Nat.le_refl _) _).setCell (Nat.le_refl _) _).setCell (Nat.le_refl _) _).setCell (Nat.le_refl _) _).setCell (Nat.le_refl _) _).setCell (Nat.le_refl _) _).setCell (Nat.le_refl _) _).setCell (Nat.le_refl _) _), HST.out⟩
        case measure => simp [intOf]; omega
      · have e : k = Xl.length := by omega
        go_wp2
        go_ret
        exact ⟨_, rfl, hb, hf.own e hL HM.out⟩
end Go.Proofs.YtfbfgljkiikabaaGreat
namespace Go.Proofs.YtfbfgljkiikabaaGreat
open Go.RowKit Go.Deep

set_option maxHeartbeats 1000000 in
theorem heldRdO_any (lo hi : Nat) (a : Option Addr) (m : Nat) (D : Rd) (k : Int) (w : World) (h : RssOwn lo hi w (.slice a D.sl.length m) (mkRss k D.sl)) (hn : RdSmall D) (h0 : 0 ≤ k) (hk : k ≤ 2000000000000000000) :
    Calls Tryz.prog 55 #[.agg #[.int .i64 D.pr, .int .i64 D.kn, .slice a D.sl.length m], .int .i64 k] w fun e w' => e = .returned (.int .i64 (k + (posRs D.sl D.sl.length : Int))) ∧ Below w.heap.size w w' := by
  have H := hide h
  clear h
  have HO : ∀ o, Hid (Below w.heap.size w (w.alloc o)) := fun o => one_al w o
  go_enter Tryz.func55, Tryz.ntmps55
  go_wp2_with fail
  refine (heldRss_any lo hi _ D.sl k _ (H.out.below (HO _).out) hn h0 hk).mono ?_
  rintro e w1 ⟨rfl, hb⟩
  have HB := hide (bt (HO _).out hb)
  clear hb
  obtain ⟨q, hq⟩ : ∃ q : Int, q = k + (posRs D.sl D.sl.length : Int) := ⟨_, rfl⟩
  rw [← hq]
  have hq0 : ¬ q < 0 := by omega
  have HQ := hide hq
  clear hq
  go_wp2
  go_ret
  exact ⟨ret_int HQ.out, HB.out⟩

set_option maxRecDepth 20000 in
set_option maxHeartbeats 8000000 in
theorem heldRr_any (lo hi : Nat) (cs : List Value) (U : Rr) (k : Int) (w : World) (h : RrOwn lo hi w cs (mkRr k U)) (_hhi : hi ≤ w.heap.size) (hn : RrSmall U) (h0 : 0 ≤ k) (hk : k ≤ 1000000000000000) :
    Calls Tryz.prog 16 #[.agg cs.toArray, .int .i64 k] w fun e w' => e = .returned (.int .i64 (kR7 k U)) ∧ Below w.heap.size w w' := by
  have HN := hide hn
  obtain ⟨b1, b2, b3, b4, b5, b6, b7⟩ := kR_bd hn h0 hk
  have w3 := hn.2.2.2.1
  have w4 := hn.2.2.2.2.1
  unfold RtsSmall at w3
  unfold RisSmall at w4
  obtain ⟨a0, k0, a1, k1, a2, k2, a3, k3, a4, k4, a5, k5, a6, k6, c, hcs, h⟩ := h
  rw [mkRr_L] at hcs
  have c3 : cs[3]? = some (.int .i64 U.sf.pr) := by rw [hcs]; rfl
  have c4 : cs[4]? = some (.int .i64 U.sf.kn) := by rw [hcs]; rfl
  have c5 : cs[5]? = some (.slice a0 U.sf.sl.length k0) := by rw [hcs]; rfl
  have c6 : cs[6]? = some (.int .i64 U.dk.pr) := by rw [hcs]; rfl
  have c7 : cs[7]? = some (.int .i64 U.dk.kn) := by rw [hcs]; rfl
  have c8 : cs[8]? = some (.slice a1 U.dk.sl.length k1) := by rw [hcs]; rfl
  have c9 : cs[9]? = some (.slice a2 U.he.length k2) := by rw [hcs]; rfl
  have c10 : cs[10]? = some (.slice a3 U.wi.length k3) := by rw [hcs]; rfl
  have c14 : cs[14]? = some (.slice a4 U.ye.length k4) := by rw [hcs]; rfl
  have c15 : cs[15]? = some (.slice a5 U.be.length k5) := by rw [hcs]; rfl
  have c16 : cs[16]? = some (.slice a6 U.ac.length k6) := by rw [hcs]; rfl
  have O0 : Hid (RssOwn (c 0).1 (c 0).2 w (.slice a0 U.sf.sl.length k0) (mkRss (kR0 k U) U.sf.sl)) := by have := h.o0; simp only [mkRr, mkRss_len] at this; exact this
  have O1 : Hid (RssOwn (c 1).1 (c 1).2 w (.slice a1 U.dk.sl.length k1) (mkRss (kR1 k U) U.dk.sl)) := by have := h.o1; simp only [mkRr, mkRss_len] at this; exact this
  have O2 : Hid (RmsOwn (c 2).1 (c 2).2 w (.slice a2 U.he.length k2) (mkRms (kR2 k U) U.he)) := by have := h.o2; simp only [mkRr, mkRms_len] at this; exact this
  have O3 : Hid (RtsOwn (c 3).1 (c 3).2 w (.slice a3 U.wi.length k3) (tmarks (kR3 k U) U.wi.length)) := by have := h.o3; simp only [mkRr, tmarks_len] at this; exact this
  have O4 : Hid (RisOwn (c 4).1 (c 4).2 w (.slice a4 U.ye.length k4) (imarks (kR4 k U) U.ye.length)) := by have := h.o4; simp only [mkRr, imarks_len] at this; exact this
  have O5 : Hid (RssOwn (c 5).1 (c 5).2 w (.slice a5 U.be.length k5) (mkRss (kR5 k U) U.be)) := by have := h.o5; simp only [mkRr, mkRss_len] at this; exact this
  have O6 : Hid (RasOwn (c 6).1 (c 6).2 w (.slice a6 U.ac.length k6) (mkRas (kR6 k U) U.ac)) := by have := h.o6; simp only [mkRr, mkRas_len] at this; exact this
  clear h hcs hn
  go_enter Tryz.func16, Tryz.ntmps16
  go_wp2_with fail
  generalize hWa : w.alloc _ = Wa
  have HB : Hid (Below w.heap.size w Wa) := by unfold Hid; rw [← hWa]; exact (one_al w _)
  have F : Hid (Box Wa w.heap.size cs.toArray) := by unfold Hid; rw [← hWa]; exact (Box.new _ _ _ _ rfl)
  clear hWa
  replace O0 := hide (O0.out.below HB.out)
  replace O1 := hide (O1.out.below HB.out)
  replace O2 := hide (O2.out.below HB.out)
  replace O3 := hide (O3.out.below HB.out)
  replace O4 := hide (O4.out.below HB.out)
  replace O5 := hide (O5.out.below HB.out)
  replace O6 := hide (O6.out.below HB.out)
  refine (heldRdO_any (c 0).1 (c 0).2 a0 k0 U.sf (kR0 k U) _ O0.out HN.out.1 (show (0 : Int) ≤ kR0 k U from h0) (show kR0 k U ≤ 2000000000000000000 from Int.le_trans hk (by decide))).mono ?_
  rintro e w11 ⟨rfl, hb⟩
  rw [show kR0 k U + (posRs U.sf.sl U.sf.sl.length : Int) = kR1 k U from rfl]
  replace HB : Hid (Below w.heap.size w w11) := bt HB.out hb
  replace F := hide (F.out.on hb)
  replace O1 := hide (O1.out.below hb)
  replace O2 := hide (O2.out.below hb)
  replace O3 := hide (O3.out.below hb)
  replace O4 := hide (O4.out.below hb)
  replace O5 := hide (O5.out.below hb)
  replace O6 := hide (O6.out.below hb)
  clear hb
  have z1 : ¬ kR1 k U < 0 := by omega
  have g6 : w11.cell? ⟨w.heap.size, 6, none⟩ = some (.int .i64 U.dk.pr) := by rw [F.out.cell 6, List.getElem?_toArray]; exact c6
  have g7 : w11.cell? ⟨w.heap.size, 7, none⟩ = some (.int .i64 U.dk.kn) := by rw [F.out.cell 7, List.getElem?_toArray]; exact c7
  have g8 : w11.cell? ⟨w.heap.size, 8, none⟩ = some (.slice a1 U.dk.sl.length k1) := by rw [F.out.cell 8, List.getElem?_toArray]; exact c8
  go_wp2_with fail
  clear g6 g7 g8
  refine (heldRdO_any (c 1).1 (c 1).2 a1 k1 U.dk (kR1 k U) _ O1.out HN.out.2.1 (by omega) (by omega)).mono ?_
  rintro e w12 ⟨rfl, hb⟩
  rw [show kR1 k U + (posRs U.dk.sl U.dk.sl.length : Int) = kR2 k U from rfl]
  replace HB : Hid (Below w.heap.size w w12) := bt HB.out hb
  replace F := hide (F.out.on hb)
  replace O2 := hide (O2.out.below hb)
  replace O3 := hide (O3.out.below hb)
  replace O4 := hide (O4.out.below hb)
  replace O5 := hide (O5.out.below hb)
  replace O6 := hide (O6.out.below hb)
  clear hb
  have z2 : ¬ kR2 k U < 0 := by omega
  have g9 : w12.cell? ⟨w.heap.size, 9, none⟩ = some (.slice a2 U.he.length k2) := by rw [F.out.cell 9, List.getElem?_toArray]; exact c9
  go_wp2_with fail
  clear g9
  refine (heldRms_any (c 2).1 (c 2).2 _ U.he (kR2 k U) _ O2.out HN.out.2.2.1 (by omega) (by omega)).mono ?_
  rintro e w13 ⟨rfl, hb⟩
  rw [show kR2 k U + (posRm U.he U.he.length : Int) = kR3 k U from rfl]
  replace HB : Hid (Below w.heap.size w w13) := bt HB.out hb
  replace F := hide (F.out.on hb)
  replace O3 := hide (O3.out.below hb)
  replace O4 := hide (O4.out.below hb)
  replace O5 := hide (O5.out.below hb)
  replace O6 := hide (O6.out.below hb)
  clear hb
  have z3 : ¬ kR3 k U < 0 := by omega
  have g10 : w13.cell? ⟨w.heap.size, 10, none⟩ = some (.slice a3 U.wi.length k3) := by rw [F.out.cell 10, List.getElem?_toArray]; exact c10
  go_wp2_with fail
  clear g10
  refine (heldRts_any _ _ U.wi.length (kR3 k U) _ O3.out.at (by omega) (by omega)).mono ?_
  rintro e w14 ⟨rfl, hb⟩
  rw [show kR3 k U + (U.wi.length : Int) = kR4 k U from rfl]
  replace HB : Hid (Below w.heap.size w w14) := bt HB.out hb
  replace F := hide (F.out.on hb)
  replace O4 := hide (O4.out.below hb)
  replace O5 := hide (O5.out.below hb)
  replace O6 := hide (O6.out.below hb)
  clear hb
  have z4 : ¬ kR4 k U < 0 := by omega
  have g14 : w14.cell? ⟨w.heap.size, 14, none⟩ = some (.slice a4 U.ye.length k4) := by rw [F.out.cell 14, List.getElem?_toArray]; exact c14
  go_wp2_with fail
  clear g14
  refine (heldRis_any _ _ U.ye.length (kR4 k U) _ O4.out.at (by omega) (by omega)).mono ?_
  rintro e w15 ⟨rfl, hb⟩
  rw [show kR4 k U + (U.ye.length : Int) = kR5 k U from rfl]
  replace HB : Hid (Below w.heap.size w w15) := bt HB.out hb
  replace F := hide (F.out.on hb)
  replace O5 := hide (O5.out.below hb)
  replace O6 := hide (O6.out.below hb)
  clear hb
  have z5 : ¬ kR5 k U < 0 := by omega
  have g15 : w15.cell? ⟨w.heap.size, 15, none⟩ = some (.slice a5 U.be.length k5) := by rw [F.out.cell 15, List.getElem?_toArray]; exact c15
  go_wp2_with fail
  clear g15
  refine (heldRss_any (c 5).1 (c 5).2 _ U.be (kR5 k U) _ O5.out HN.out.2.2.2.2.2.1 (by omega) (by omega)).mono ?_
  rintro e w16 ⟨rfl, hb⟩
  rw [show kR5 k U + (posRs U.be U.be.length : Int) = kR6 k U from rfl]
  replace HB : Hid (Below w.heap.size w w16) := bt HB.out hb
  replace F := hide (F.out.on hb)
  replace O6 := hide (O6.out.below hb)
  clear hb
  have z6 : ¬ kR6 k U < 0 := by omega
  have g16 : w16.cell? ⟨w.heap.size, 16, none⟩ = some (.slice a6 U.ac.length k6) := by rw [F.out.cell 16, List.getElem?_toArray]; exact c16
  go_wp2_with fail
  clear g16
  refine (heldRas_any (c 6).1 (c 6).2 _ U.ac (kR6 k U) _ O6.out HN.out.2.2.2.2.2.2 (by omega) (by omega)).mono ?_
  rintro e w17 ⟨rfl, hb⟩
  rw [show kR6 k U + (posRa U.ac U.ac.length : Int) = kR7 k U from rfl]
  replace HB : Hid (Below w.heap.size w w17) := bt HB.out hb
  replace F := hide (F.out.on hb)
  clear hb
  have z7 : ¬ kR7 k U < 0 := by omega
  go_wp2
  go_ret
  exact ⟨rfl, HB.out⟩
end Go.Proofs.YtfbfgljkiikabaaGreat
