import Derived.Test.YtpdlcccnlciecaaGreatV06
import Derived.Test.YtpdlcccnlciecaaGreatV07
import Derived.ProofKit
import Derived.Deep.Strs
import Derived.Deep.RegionHeld
import Derived.ChangeSlices
namespace Go.Proofs.YtpdlcccnlciecaaGreat
open Go.RowKit Go.Deep

end Go.Proofs.YtpdlcccnlciecaaGreat
namespace Go.Proofs.YtpdlcccnlciecaaGreat
open Go.RowKit Go.Deep

end Go.Proofs.YtpdlcccnlciecaaGreat
namespace Go.Proofs.YtpdlcccnlciecaaGreat
open Go.RowKit Go.Deep

end Go.Proofs.YtpdlcccnlciecaaGreat
namespace Go.Proofs.YtpdlcccnlciecaaGreat
open Go.RowKit Go.Deep

def SvsFillO (wr : World) (B : Nat) (Xl : List Sv) (k : Nat) (c : Nat → Nat) : Prop :=
  B < c 0 ∧ (∀ i, i < k → c i ≤ c (i + 1)) ∧ c k ≤ wr.heap.size ∧ ∃ f, wr.rowIs B 50 (Xl.length * 13) f ∧ ∀ i (h : i < Xl.length), i < k → SvSize Xl[i] ∧ f (i * 13) = .string Xl[i].nm ∧ f (i * 13 + 1) = .int .i64 Xl[i].ve ∧ f (i * 13 + 2) = .bool Xl[i].gn ∧ f (i * 13 + 3) = .int .i64 Xl[i].im ∧ f (i * 13 + 4) = .int .i64 Xl[i].wa ∧ f (i * 13 + 5) = .int .i64 Xl[i].dn ∧ f (i * 13 + 6) = .int .i64 Xl[i].ov ∧ f (i * 13 + 7) = .int .i64 Xl[i].nx ∧ f (i * 13 + 8) = .int .i64 Xl[i].pr ∧ f (i * 13 + 9) = .int .i64 Xl[i].ls ∧ f (i * 13 + 10) = .int .i64 Xl[i].ms ∧ f (i * 13 + 11) = .int .i64 Xl[i].ld ∧ f (i * 13 + 12) = .int .i64 Xl[i].cl
theorem SvsFillO.le {wr : World} {B : Nat} {Xl : List Sv} {k : Nat} {c : Nat → Nat} (h : SvsFillO wr B Xl k c) {i : Nat} : ∀ {j : Nat}, i ≤ j → j ≤ k → c i ≤ c j := by
  intro j
  induction j with
  | zero => intro hij _; have : i = 0 := by omega
            subst this; exact Nat.le_refl _
  | succ j ih =>
    intro hij hjn
    by_cases e : i = j + 1
    · subst e; exact Nat.le_refl _
    · exact Nat.le_trans (ih (by omega) (by omega)) (h.2.1 j (by omega))
theorem SvsFillO.below {wr w1 : World} {B : Nat} {Xl : List Sv} {k : Nat} {c : Nat → Nat} (h : SvsFillO wr B Xl k c) (hb : Below wr.heap.size wr w1) : SvsFillO w1 B Xl k c := by
  obtain ⟨g1, g2, g3, f, hr, hall⟩ := h
  refine ⟨g1, g2, Nat.le_trans g3 hb.size, f, hr.of_block (hb.block B hr.lt), fun i hi hik => ?_⟩
  obtain ⟨hz, h0, h1, h2, h3, h4, h5, h6, h7, h8, h9, h10, h11, h12⟩ := hall i hi hik
  exact ⟨hz, h0, h1, h2, h3, h4, h5, h6, h7, h8, h9, h10, h11, h12⟩
theorem SvsFillO.free {wr : World} {B : Nat} {Xl : List Sv} {k : Nat} {c : Nat → Nat} (h : SvsFillO wr B Xl k c) (i : Nat) : wr.frozen? ⟨B, i, none⟩ = false := by
  obtain ⟨_, _, _, f, hr, _⟩ := h
  exact hr.frozen i
theorem SvsFillO.there {wr : World} {B : Nat} {Xl : List Sv} {k : Nat} {c : Nat → Nat} (h : SvsFillO wr B Xl k c) (i : Nat) (hi : i < Xl.length * 13) : ∃ v, wr.cell? ⟨B, i, none⟩ = some v := by
  obtain ⟨_, _, _, f, hr, _⟩ := h
  exact ⟨_, hr.cell hi⟩
theorem SvsFillO.lt {wr : World} {B : Nat} {Xl : List Sv} {k : Nat} {c : Nat → Nat} (h : SvsFillO wr B Xl k c) : B < wr.heap.size := by
  obtain ⟨_, _, _, f, hr, _⟩ := h
  exact hr.lt
theorem SvsFillO.step {w1 : World} {B : Nat} {Xl : List Sv} {k : Nat} {c : Nat → Nat} (h : SvsFillO w1 B Xl k c) (hk : k < Xl.length) (hz : SvSize Xl[k]) (d : Nat) (hd0 : c k ≤ d) (hd : d ≤ w1.heap.size) :
    SvsFillO (((((((((((((w1.setCell ⟨B, k * 13, none⟩ (.string Xl[k].nm)).setCell ⟨B, k * 13 + 1, none⟩ (.int .i64 Xl[k].ve)).setCell ⟨B, k * 13 + 2, none⟩ (.bool Xl[k].gn)).setCell ⟨B, k * 13 + 3, none⟩ (.int .i64 Xl[k].im)).setCell ⟨B, k * 13 + 4, none⟩ (.int .i64 Xl[k].wa)).setCell ⟨B, k * 13 + 5, none⟩ (.int .i64 Xl[k].dn)).setCell ⟨B, k * 13 + 6, none⟩ (.int .i64 Xl[k].ov)).setCell ⟨B, k * 13 + 7, none⟩ (.int .i64 Xl[k].nx)).setCell ⟨B, k * 13 + 8, none⟩ (.int .i64 Xl[k].pr)).setCell ⟨B, k * 13 + 9, none⟩ (.int .i64 Xl[k].ls)).setCell ⟨B, k * 13 + 10, none⟩ (.int .i64 Xl[k].ms)).setCell ⟨B, k * 13 + 11, none⟩ (.int .i64 Xl[k].ld)).setCell ⟨B, k * 13 + 12, none⟩ (.int .i64 Xl[k].cl)) B Xl (k + 1) (fun j => if j ≤ k then c j else d) := by
  have hle := fun i (hi : i ≤ k) => h.le (i := 0) (j := i) (Nat.zero_le _) hi
  have hle2 := fun i (hi : i < k) => h.le (i := i + 1) (j := k) (by omega) (Nat.le_refl _)
  obtain ⟨g1, g2, g3, f, hr, hall⟩ := h
  have hts : Touch B (B + 1) w1 (((((((((((((w1.setCell ⟨B, k * 13, none⟩ (.string Xl[k].nm)).setCell ⟨B, k * 13 + 1, none⟩ (.int .i64 Xl[k].ve)).setCell ⟨B, k * 13 + 2, none⟩ (.bool Xl[k].gn)).setCell ⟨B, k * 13 + 3, none⟩ (.int .i64 Xl[k].im)).setCell ⟨B, k * 13 + 4, none⟩ (.int .i64 Xl[k].wa)).setCell ⟨B, k * 13 + 5, none⟩ (.int .i64 Xl[k].dn)).setCell ⟨B, k * 13 + 6, none⟩ (.int .i64 Xl[k].ov)).setCell ⟨B, k * 13 + 7, none⟩ (.int .i64 Xl[k].nx)).setCell ⟨B, k * 13 + 8, none⟩ (.int .i64 Xl[k].pr)).setCell ⟨B, k * 13 + 9, none⟩ (.int .i64 Xl[k].ls)).setCell ⟨B, k * 13 + 10, none⟩ (.int .i64 Xl[k].ms)).setCell ⟨B, k * 13 + 11, none⟩ (.int .i64 Xl[k].ld)).setCell ⟨B, k * 13 + 12, none⟩ (.int .i64 Xl[k].cl)) := ((((((((((((Touch.setB B _ _ _).trans (Touch.setB B _ _ _)).trans (Touch.setB B _ _ _)).trans (Touch.setB B _ _ _)).trans (Touch.setB B _ _ _)).trans (Touch.setB B _ _ _)).trans (Touch.setB B _ _ _)).trans (Touch.setB B _ _ _)).trans (Touch.setB B _ _ _)).trans (Touch.setB B _ _ _)).trans (Touch.setB B _ _ _)).trans (Touch.setB B _ _ _)).trans (Touch.setB B _ _ _)
  refine ⟨by simpa using g1, fun i hi => ?_, ?_, _, (((((((((((((hr.set _ _).set _ _).set _ _).set _ _).set _ _).set _ _).set _ _).set _ _).set _ _).set _ _).set _ _).set _ _).set _ _), fun i hi hik => ?_⟩
  · dsimp only
    by_cases e : i = k
    · subst e; rw [if_pos (Nat.le_refl _), if_neg (by omega)]; exact hd0
    · rw [if_pos (by omega), if_pos (by omega)]; exact g2 i (by omega)
  · dsimp only; rw [if_neg (by omega)]; exact Nat.le_trans hd hts.size
  by_cases e : i = k
  · subst e
    have hb0 := hle i (Nat.le_refl _)
    exact ⟨hz, by simp, by simp, by simp, by simp, by simp, by simp, by simp, by simp, by simp, by simp, by simp, by simp, by simp⟩
  · have hb0 := hle i (by omega)
    obtain ⟨hz, h0, h1, h2, h3, h4, h5, h6, h7, h8, h9, h10, h11, h12⟩ := hall i hi (by omega)
    refine ⟨hz, ?_, ?_, ?_, ?_, ?_, ?_, ?_, ?_, ?_, ?_, ?_, ?_, ?_⟩
    · rw [if_neg (by omega), if_neg (by omega), if_neg (by omega), if_neg (by omega), if_neg (by omega), if_neg (by omega), if_neg (by omega), if_neg (by omega), if_neg (by omega), if_neg (by omega), if_neg (by omega), if_neg (by omega), if_neg (by omega)]; exact h0
    · rw [if_neg (by omega), if_neg (by omega), if_neg (by omega), if_neg (by omega), if_neg (by omega), if_neg (by omega), if_neg (by omega), if_neg (by omega), if_neg (by omega), if_neg (by omega), if_neg (by omega), if_neg (by omega), if_neg (by omega)]; exact h1
    · rw [if_neg (by omega), if_neg (by omega), if_neg (by omega), if_neg (by omega), if_neg (by omega), if_neg (by omega), if_neg (by omega), if_neg (by omega), if_neg (by omega), if_neg (by omega), if_neg (by omega), if_neg (by omega), if_neg (by omega)]; exact h2
    · rw [if_neg (by omega), if_neg (by omega), if_neg (by omega), if_neg (by omega), if_neg (by omega), if_neg (by omega), if_neg (by omega), if_neg (by omega), if_neg (by omega), if_neg (by omega), if_neg (by omega), if_neg (by omega), if_neg (by omega)]; exact h3
    · rw [if_neg (by omega), if_neg (by omega), if_neg (by omega), if_neg (by omega), if_neg (by omega), if_neg (by omega), if_neg (by omega), if_neg (by omega), if_neg (by omega), if_neg (by omega), if_neg (by omega), if_neg (by omega), if_neg (by omega)]; exact h4
    · rw [if_neg (by omega), if_neg (by omega), if_neg (by omega), if_neg (by omega), if_neg (by omega), if_neg (by omega), if_neg (by omega), if_neg (by omega), if_neg (by omega), if_neg (by omega), if_neg (by omega), if_neg (by omega), if_neg (by omega)]; exact h5
    · rw [if_neg (by omega), if_neg (by omega), if_neg (by omega), if_neg (by omega), if_neg (by omega), if_neg (by omega), if_neg (by omega), if_neg (by omega), if_neg (by omega), if_neg (by omega), if_neg (by omega), if_neg (by omega), if_neg (by omega)]; exact h6
    · rw [if_neg (by omega), if_neg (by omega), if_neg (by omega), if_neg (by omega), if_neg (by omega), if_neg (by omega), if_neg (by omega), if_neg (by omega), if_neg (by omega), if_neg (by omega), if_neg (by omega), if_neg (by omega), if_neg (by omega)]; exact h7
    · rw [if_neg (by omega), if_neg (by omega), if_neg (by omega), if_neg (by omega), if_neg (by omega), if_neg (by omega), if_neg (by omega), if_neg (by omega), if_neg (by omega), if_neg (by omega), if_neg (by omega), if_neg (by omega), if_neg (by omega)]; exact h8
    · rw [if_neg (by omega), if_neg (by omega), if_neg (by omega), if_neg (by omega), if_neg (by omega), if_neg (by omega), if_neg (by omega), if_neg (by omega), if_neg (by omega), if_neg (by omega), if_neg (by omega), if_neg (by omega), if_neg (by omega)]; exact h9
    · rw [if_neg (by omega), if_neg (by omega), if_neg (by omega), if_neg (by omega), if_neg (by omega), if_neg (by omega), if_neg (by omega), if_neg (by omega), if_neg (by omega), if_neg (by omega), if_neg (by omega), if_neg (by omega), if_neg (by omega)]; exact h10
    · rw [if_neg (by omega), if_neg (by omega), if_neg (by omega), if_neg (by omega), if_neg (by omega), if_neg (by omega), if_neg (by omega), if_neg (by omega), if_neg (by omega), if_neg (by omega), if_neg (by omega), if_neg (by omega), if_neg (by omega)]; exact h11
    · rw [if_neg (by omega), if_neg (by omega), if_neg (by omega), if_neg (by omega), if_neg (by omega), if_neg (by omega), if_neg (by omega), if_neg (by omega), if_neg (by omega), if_neg (by omega), if_neg (by omega), if_neg (by omega), if_neg (by omega)]; exact h12
theorem SvsFillO.own {wr : World} {B : Nat} {Xl : List Sv} {k : Nat} {c : Nat → Nat} (h : SvsFillO wr B Xl k c) (hk : k = Xl.length) (hne : Xl ≠ []) (hm : Xl.length ≤ maxLen) : SvsOwn B wr.heap.size wr (.slice (some ⟨B, 0, none⟩) Xl.length Xl.length) Xl := by
  subst hk
  obtain ⟨g1, g2, g3, f, hr, hall⟩ := h
  have h0 : 0 < Xl.length := List.length_pos_iff.2 hne
  refine Or.inr ⟨B, 0, Xl.length, c, fun i => if h : i < Xl.length then Xl[i] else Xl[0], rfl, hne, hm, Nat.le_refl _, fun i hi => by simp [hi], hr.lt, Nat.le_refl _, g1, hr.lt, g2, g3, fun i => hr.frozen i, fun i hi => ?_⟩
  obtain ⟨hz, h0, h1, h2, h3, h4, h5, h6, h7, h8, h9, h10, h11, h12⟩ := hall i hi hi
  simp only [hi, dif_pos]
  rw [Nat.zero_add]
  exact ⟨hz, ⟨by rw [hr.cell (by omega), h0], by rw [hr.cell (by omega), h1], by rw [hr.cell (by omega), h2], by rw [hr.cell (by omega), h3], by rw [hr.cell (by omega), h4], by rw [hr.cell (by omega), h5], by rw [hr.cell (by omega), h6], by rw [hr.cell (by omega), h7], by rw [hr.cell (by omega), h8], by rw [hr.cell (by omega), h9], by rw [hr.cell (by omega), h10], by rw [hr.cell (by omega), h11], by rw [hr.cell (by omega), h12]⟩⟩
theorem SvsFillO.new (w : World) (Xl : List Sv) (z : Array Value) : SvsFillO (w.alloc (.cells (madeCells z (Xl.length * 13)) 50)) w.heap.size Xl 0 (fun _ => w.heap.size + 1) := by
  refine ⟨Nat.lt_succ_self _, fun i hi => by omega, by simp, fun i => (madeCells z (Xl.length * 13)).getD i default, ?_, fun i _ h => by omega⟩
  have := World.rowIs_alloc w (madeCells z (Xl.length * 13)) 50 (fun i => (madeCells z (Xl.length * 13)).getD i default) (fun i hi => by simp [Array.getD, hi])
  rwa [size_madeCells] at this
set_option maxHeartbeats 4000000 in
theorem toSvsO_any (lo : Nat) (v : Value) (Xl : List Sv) (w : World) (hv : SvsAt lo w v Xl) (hn : SvsSmall Xl) :
    Calls Tryz.prog 18 #[v] w fun e w' => ∃ v', e = .returned v' ∧ Below w.heap.size w w' ∧ SvsOwn w.heap.size w'.heap.size w' v' Xl := by
  obtain ⟨i0, hi, hz0, hz1, hz2⟩ := info_parts Tryz.info50
  have HSM := hide hn.2
  have hn1 := hn.1
  clear hn
  by_cases hL : Xl = []
  · subst hL
    obtain ⟨a, cap, rfl⟩ := hv.form
    clear hv
    have hmk : ∀ u : World, (Instr.makeSlice 30 (.int .i64 0) (.int .i64 0)).run Tryz.prog u = .ok (.slice (some ⟨u.heap.size, 0, none⟩) 0 0) (u.alloc (.cells (madeCells (Value.cells (.agg #[.string ⟨#[]⟩, .int .i64 0, .bool false, .int .i64 0, .int .i64 0, .int .i64 0, .int .i64 0, .int .i64 0, .int .i64 0, .int .i64 0, .int .i64 0, .int .i64 0, .int .i64 0])) 0) 50)) := fun u => by
      have h := run_make (P := Tryz.prog) u 30 50 i0 _ Tryz.underlying30 hi hz0 .i64 .i64 0 0 (by omega) (by omega) (by omega) (by omega)
      simpa [hz1] using h
    go_enter Tryz.func18, Tryz.ntmps18
    go_wp2
    go_loop [4] (fun i => i = .int .i64 0) (fun _ => 0)
    case atStart => rfl
    case round =>
      subst hrel
      go_wp2
      go_ret
      exact ⟨_, rfl, (Below.refl _ _).alloc (Nat.le_refl _) _, Or.inl ⟨_, _, rfl, rfl⟩⟩
  · obtain ⟨b, off, cap, rfl, hm, hbw, _, hc⟩ := hv.full hL
    clear hv
    have HM : Hid (Xl.length ≤ maxLen) := hm
    unfold maxLen at hm
    have hmk : ∀ u : World, (Instr.makeSlice 30 (.int .i64 (Xl.length : Int)) (.int .i64 (Xl.length : Int))).run Tryz.prog u = .ok (.slice (some ⟨u.heap.size, 0, none⟩) Xl.length Xl.length) (u.alloc (.cells (madeCells (Value.cells (.agg #[.string ⟨#[]⟩, .int .i64 0, .bool false, .int .i64 0, .int .i64 0, .int .i64 0, .int .i64 0, .int .i64 0, .int .i64 0, .int .i64 0, .int .i64 0, .int .i64 0, .int .i64 0])) (Xl.length * 13)) 50)) := fun u => by
      have h := run_make (P := Tryz.prog) u 30 50 i0 _ Tryz.underlying30 hi hz0 .i64 .i64 Xl.length Xl.length (by omega) (by omega) (by rw [hz2]; omega) (by omega)
      rw [hz1] at h
      simpa using h
    clear hi hz0 hz1 hz2
    go_enter Tryz.func18, Tryz.ntmps18
    go_wp2
    clear hmk
    go_loopw [4] (fun i wr => ∃ (k : Nat) (c : Nat → Nat), i = .int .i64 k ∧ k ≤ Xl.length ∧ Below w.heap.size w wr ∧ SvsFillO wr w.heap.size Xl k c) (fun i _ => Xl.length - (intOf i).toNat)
    case atStart => exact ⟨0, _, rfl, by omega, (Below.refl _ _).alloc (Nat.le_refl _) _, SvsFillO.new w Xl _⟩
    case round =>
      obtain ⟨k, c, rfl, hk, hb, hf⟩ := hrel
      by_cases hlt : k < Xl.length
      · obtain ⟨hs, hc⟩ := hc k hlt
        have HB := hide hb
        have HF := hide hf
        have HSZ := hide hs
        obtain ⟨c0, c1, c2, c3, c4, c5, c6, c7, c8, c9, c10, c11, c12⟩ := hc.below hb hbw
        clear hc hb hf hs
        go_wp2_with fail
        refine (toSv_any _ _).mono ?_
        rintro e w1 ⟨rfl, hb1⟩
        have hf1 := HF.out.below hb1
        have hB : Hid (Below w.heap.size w w1) := HB.out.trans (hb1.mono HB.out.size)
        have HST := hide (hf1.step hlt HSZ.out w1.heap.size (Nat.le_trans HF.out.2.2.1 hb1.size) (Nat.le_refl _))
        have hfr := hf1.free
        obtain ⟨o0, ho0⟩ := hf1.there (k * 13) (by omega)
        obtain ⟨o1, ho1⟩ := hf1.there (k * 13 + 1) (by omega)
        obtain ⟨o2, ho2⟩ := hf1.there (k * 13 + 2) (by omega)
        obtain ⟨o3, ho3⟩ := hf1.there (k * 13 + 3) (by omega)
        obtain ⟨o4, ho4⟩ := hf1.there (k * 13 + 4) (by omega)
        obtain ⟨o5, ho5⟩ := hf1.there (k * 13 + 5) (by omega)
        obtain ⟨o6, ho6⟩ := hf1.there (k * 13 + 6) (by omega)
        obtain ⟨o7, ho7⟩ := hf1.there (k * 13 + 7) (by omega)
        obtain ⟨o8, ho8⟩ := hf1.there (k * 13 + 8) (by omega)
        obtain ⟨o9, ho9⟩ := hf1.there (k * 13 + 9) (by omega)
        obtain ⟨o10, ho10⟩ := hf1.there (k * 13 + 10) (by omega)
        obtain ⟨o11, ho11⟩ := hf1.there (k * 13 + 11) (by omega)
        obtain ⟨o12, ho12⟩ := hf1.there (k * 13 + 12) (by omega)
        clear hf1 hb1 HF HB c0 c1 c2 c3 c4 c5 c6 c7 c8 c9 c10 c11 c12
        go_wp2
        go_roundw
        case rel =>
          exact ⟨k + 1, _, by go_num, by omega, (((((((((((((hB.out.setCell (Nat.le_refl _) _).setCell (Nat.le_refl _) _).setCell (Nat.le_refl _) _).setCell (Nat.le_refl _) _).setCell (Nat.le_refl _) _).setCell (Nat.le_refl _) _).setCell (Nat.le_refl _) _).setCell (Nat.le_refl _) _).setCell (Nat.le_refl _) _).setCell (Nat.le_refl _) _).setCell (Nat.le_refl _) _).setCell (Nat.le_refl _) _).setCell (Nat.le_refl _) _), HST.out⟩
        case measure => simp [intOf]; omega
      · have e : k = Xl.length := by omega
        go_wp2
        go_ret
        exact ⟨_, rfl, hb, hf.own e hL HM.out⟩
end Go.Proofs.YtpdlcccnlciecaaGreat
namespace Go.Proofs.YtpdlcccnlciecaaGreat
open Go.RowKit Go.Deep

set_option maxRecDepth 20000 in
set_option maxHeartbeats 8000000 in
theorem heldEns_any (lo hi : Nat) (v : Value) (Xl : List En) (k : Int) (w : World) (hv : EnsOwn lo hi w v (mkEns k Xl)) (hn : EnsSmall Xl) (h0 : 0 ≤ k) (hk : k ≤ 2000000000000000000) :
    Calls Tryz.prog 33 #[v, .int .i64 k] w fun e w' => e = .returned (.int .i64 (k + (posEn Xl Xl.length : Int))) ∧ Below w.heap.size w w' := by
  have HA := hide hv.at
  have HN := hide hn
  have hlen := hn.1
  obtain ⟨a, cap, hv'⟩ := hv.form
  rw [mkEns_len] at hv'
  subst hv'
  clear hv hn
  go_enter Tryz.func33, Tryz.ntmps33
  go_wp2
  go_loopw [5, 1] (fun i q wr => ∃ j : Nat, i = .int .i64 j ∧ q = .int .i64 (k + (posEn Xl j : Int)) ∧ j ≤ Xl.length ∧ Below w.heap.size w wr) (fun i _ _ => Xl.length - (intOf i).toNat)
  case atStart => exact ⟨0, rfl, by simp [posEn], by omega, Below.refl _ _⟩
  case round =>
    obtain ⟨j, rfl, rfl, hj, hb⟩ := hrel
    have HB0 := hide hb
    clear hb
    by_cases hlt : j < Xl.length
    · obtain ⟨b, off, rfl, hbw, -, hc⟩ := HA.out.full' (by rw [mkEns_len]; omega)
      have hcj := hc j (by rw [mkEns_len]; omega)
      rw [mkEns_get _ _ _ _ hlt] at hcj
      have hpos := posEn_le HN.out (i := j) (by omega)
      have HP := hide (posEn_succ hlt)
      obtain ⟨x, hx⟩ : ∃ x, x = Xl[j] := ⟨_, rfl⟩
      rw [← hx] at hcj
      have HXX := hide hx
      obtain ⟨K, hK⟩ : ∃ K, K = k + (posEn Xl j : Int) := ⟨_, rfl⟩
      rw [← hK] at hcj
      rw [← hK]
      have hK0 : 0 ≤ K := by omega
      have hK1 : K ≤ 2500000000000000000 := by omega
      have HK := hide hK
      obtain ⟨_, hcl⟩ := hcj
      have HC := hide hcl
      clear hc hcl hx hK hpos
      have d0 : wr.cell? ⟨b, off + j * 2, none⟩ = some (.int .i64 (K)) := (HC.out.below HB0.out hbw).c0
      have d1 : wr.cell? ⟨b, off + j * 2 + 1, none⟩ = some (.int .i64 (K + 1)) := (HC.out.below HB0.out hbw).c1
      go_wp2
      clear d0 d1
      have HW : Hid (wdEn Xl[j] = 2) := by unfold Hid; rw [← HXX.out]; rfl
      have HQ : Hid ((K + 1 + 1 : Int) = k + (posEn Xl (j + 1) : Int)) := by
        have h1 := HP.out
        have h2 := HW.out
        have h3 := HK.out
        unfold Hid
        omega
      go_roundw
      case rel => exact ⟨j + 1, by go_num, congrArg (Value.int .i64) HQ.out, by omega, HB0.out⟩
      case measure => simp [intOf]; omega
    · have e : j = Xl.length := by omega
      subst e
      go_wp2
      go_ret
      exact ⟨rfl, HB0.out⟩
end Go.Proofs.YtpdlcccnlciecaaGreat
namespace Go.Proofs.YtpdlcccnlciecaaGreat
open Go.ChangeShapes Go.WideShapes Go.ChangeAt Go.RowKit Go.Deep
theorem Tryz.own : ownKnob Tryz.prog.godebug = none := by kernel_rfl
theorem Tryz.laidOut : laidOutB Tryz.prog = true := by kernel_rfl
theorem Tryz.cells9 : Tryz.prog.cellsOf 9 = 1 := by kernel_rfl
theorem Tryz.cells3 : Tryz.prog.cellsOf 3 = 1 := by kernel_rfl
theorem Tryz.cells4 : Tryz.prog.cellsOf 4 = 1 := by kernel_rfl
theorem choose_list {α : Type} {p : Nat → α → Prop} (n : Nat) : (∀ i, i < n → ∃ x, p i x) → ∃ L : List α, L.length = n ∧ ∀ i (h : i < L.length), p i L[i] := by
  induction n with
  | zero => intro _; exact ⟨[], rfl, fun i h => absurd h (by simp)⟩
  | succ n ih =>
    intro h
    obtain ⟨L, hl, hL⟩ := ih (fun i hi => h i (by omega))
    obtain ⟨x, hx⟩ := h n (by omega)
    refine ⟨L ++ [x], by simp [hl], fun i hi => ?_⟩
    by_cases e : i < L.length
    · rw [List.getElem_append_left e]; exact hL i e
    · have e2 : i = n := by simp at hi; omega
      subst e2
      have : (L ++ [x])[i] = x := by rw [List.getElem_append_right (by omega)]; simp [hl]
      rw [this]; exact hx
theorem Tryz.cells71 : Tryz.prog.cellsOf 71 = 13 := by kernel_rfl
theorem lstSv {l : List Value} (h : l.length = 13) : ∃ c0 c1 c2 c3 c4 c5 c6 c7 c8 c9 c10 c11 c12, l = [c0, c1, c2, c3, c4, c5, c6, c7, c8, c9, c10, c11, c12] := by
  match l, h with
  | [c0, c1, c2, c3, c4, c5, c6, c7, c8, c9, c10, c11, c12], _ => exact ⟨c0, c1, c2, c3, c4, c5, c6, c7, c8, c9, c10, c11, c12, rfl⟩
section
variable {H : Type} {enc : TypeId × Value → H} {W : World}
set_option maxRecDepth 100000 in
theorem open_Sv {fuel : Nat} {cs : List Value} {x : DataW H × List MemPlace} (h : DataW.trod enc Tryz.prog W 0 (fun _ => true) true fuel 71 cs = some x) :
    ∃ (x : Sv), cs = [.string x.nm, .int .i64 x.ve, .bool x.gn, .int .i64 x.im, .int .i64 x.wa, .int .i64 x.dn, .int .i64 x.ov, .int .i64 x.nx, .int .i64 x.pr, .int .i64 x.ls, .int .i64 x.ms, .int .i64 x.ld, .int .i64 x.cl] ∧ SvSize x := by
  obtain ⟨xs, n, _, _, hl, hlen, hfld⟩ := DataW.trod_struct Tryz.underlying71 h
  obtain ⟨c0, c1, c2, c3, c4, c5, c6, c7, c8, c9, c10, c11, c12, rfl⟩ := lstSv (hl.trans Tryz.cells71)
  simp only [Array.size, List.length_cons, List.length_nil] at hlen
  have g0 : DataW.trod enc Tryz.prog W 0 (fun _ => true) true n 9 ((([c0, c1, c2, c3, c4, c5, c6, c7, c8, c9, c10, c11, c12] : List Value).drop 0).take (Tryz.prog.cellsOf 9)) = xs[0]? := hfld 0 _ rfl
  have g1 : DataW.trod enc Tryz.prog W 0 (fun _ => true) true n 3 ((([c0, c1, c2, c3, c4, c5, c6, c7, c8, c9, c10, c11, c12] : List Value).drop 1).take (Tryz.prog.cellsOf 3)) = xs[1]? := hfld 1 _ rfl
  have g2 : DataW.trod enc Tryz.prog W 0 (fun _ => true) true n 4 ((([c0, c1, c2, c3, c4, c5, c6, c7, c8, c9, c10, c11, c12] : List Value).drop 2).take (Tryz.prog.cellsOf 4)) = xs[2]? := hfld 2 _ rfl
  have g3 : DataW.trod enc Tryz.prog W 0 (fun _ => true) true n 3 ((([c0, c1, c2, c3, c4, c5, c6, c7, c8, c9, c10, c11, c12] : List Value).drop 3).take (Tryz.prog.cellsOf 3)) = xs[3]? := hfld 3 _ rfl
  have g4 : DataW.trod enc Tryz.prog W 0 (fun _ => true) true n 3 ((([c0, c1, c2, c3, c4, c5, c6, c7, c8, c9, c10, c11, c12] : List Value).drop 4).take (Tryz.prog.cellsOf 3)) = xs[4]? := hfld 4 _ rfl
  have g5 : DataW.trod enc Tryz.prog W 0 (fun _ => true) true n 3 ((([c0, c1, c2, c3, c4, c5, c6, c7, c8, c9, c10, c11, c12] : List Value).drop 5).take (Tryz.prog.cellsOf 3)) = xs[5]? := hfld 5 _ rfl
  have g6 : DataW.trod enc Tryz.prog W 0 (fun _ => true) true n 3 ((([c0, c1, c2, c3, c4, c5, c6, c7, c8, c9, c10, c11, c12] : List Value).drop 6).take (Tryz.prog.cellsOf 3)) = xs[6]? := hfld 6 _ rfl
  have g7 : DataW.trod enc Tryz.prog W 0 (fun _ => true) true n 3 ((([c0, c1, c2, c3, c4, c5, c6, c7, c8, c9, c10, c11, c12] : List Value).drop 7).take (Tryz.prog.cellsOf 3)) = xs[7]? := hfld 7 _ rfl
  have g8 : DataW.trod enc Tryz.prog W 0 (fun _ => true) true n 3 ((([c0, c1, c2, c3, c4, c5, c6, c7, c8, c9, c10, c11, c12] : List Value).drop 8).take (Tryz.prog.cellsOf 3)) = xs[8]? := hfld 8 _ rfl
  have g9 : DataW.trod enc Tryz.prog W 0 (fun _ => true) true n 3 ((([c0, c1, c2, c3, c4, c5, c6, c7, c8, c9, c10, c11, c12] : List Value).drop 9).take (Tryz.prog.cellsOf 3)) = xs[9]? := hfld 9 _ rfl
  have g10 : DataW.trod enc Tryz.prog W 0 (fun _ => true) true n 3 ((([c0, c1, c2, c3, c4, c5, c6, c7, c8, c9, c10, c11, c12] : List Value).drop 10).take (Tryz.prog.cellsOf 3)) = xs[10]? := hfld 10 _ rfl
  have g11 : DataW.trod enc Tryz.prog W 0 (fun _ => true) true n 3 ((([c0, c1, c2, c3, c4, c5, c6, c7, c8, c9, c10, c11, c12] : List Value).drop 11).take (Tryz.prog.cellsOf 3)) = xs[11]? := hfld 11 _ rfl
  have g12 : DataW.trod enc Tryz.prog W 0 (fun _ => true) true n 3 ((([c0, c1, c2, c3, c4, c5, c6, c7, c8, c9, c10, c11, c12] : List Value).drop 12).take (Tryz.prog.cellsOf 3)) = xs[12]? := hfld 12 _ rfl
  simp only [Tryz.cells4, Tryz.cells3, Tryz.cells9, List.drop_succ_cons, List.drop_zero, List.take_succ_cons, List.take_zero] at g0 g1 g2 g3 g4 g5 g6 g7 g8 g9 g10 g11 g12
  rw [List.getElem?_eq_getElem (by omega)] at g0 g1 g2 g3 g4 g5 g6 g7 g8 g9 g10 g11 g12
  obtain ⟨q0, e0, _, s0⟩ := DataW.trod_string Tryz.underlying9 g0
  obtain ⟨q1, e1, _, _⟩ := DataW.trod_int Tryz.underlying3 g1
  obtain ⟨q2, e2, _⟩ := DataW.trod_bool Tryz.underlying4 g2
  obtain ⟨q3, e3, _, _⟩ := DataW.trod_int Tryz.underlying3 g3
  obtain ⟨q4, e4, _, _⟩ := DataW.trod_int Tryz.underlying3 g4
  obtain ⟨q5, e5, _, _⟩ := DataW.trod_int Tryz.underlying3 g5
  obtain ⟨q6, e6, _, _⟩ := DataW.trod_int Tryz.underlying3 g6
  obtain ⟨q7, e7, _, _⟩ := DataW.trod_int Tryz.underlying3 g7
  obtain ⟨q8, e8, _, _⟩ := DataW.trod_int Tryz.underlying3 g8
  obtain ⟨q9, e9, _, _⟩ := DataW.trod_int Tryz.underlying3 g9
  obtain ⟨q10, e10, _, _⟩ := DataW.trod_int Tryz.underlying3 g10
  obtain ⟨q11, e11, _, _⟩ := DataW.trod_int Tryz.underlying3 g11
  obtain ⟨q12, e12, _, _⟩ := DataW.trod_int Tryz.underlying3 g12
  simp only [List.cons.injEq, and_true] at e0 e1 e2 e3 e4 e5 e6 e7 e8 e9 e10 e11 e12
  subst e0 e1 e2 e3 e4 e5 e6 e7 e8 e9 e10 e11 e12
  exact ⟨⟨q0, q1, q2, q3, q4, q5, q6, q7, q8, q9, q10, q11, q12⟩, rfl, ⟨s0⟩⟩
set_option maxRecDepth 100000 in
theorem open_Svs {fuel : Nat} {c : Value} {x : DataW H × List MemPlace} (h : DataW.trod enc Tryz.prog W 0 (fun _ => true) true fuel 22 [c] = some x) : ∃ Xl, SvsAt 0 W c Xl := by
  rcases open_slice Tryz.underlying22 h with ⟨hcs, _⟩ | ⟨a, len, cap, m, n, D, Pl, hcs, _, hl, hm, hmm, _, hx⟩
  · simp only [List.cons.injEq, and_true] at hcs
    exact ⟨[], Or.inl ⟨_, _, hcs, rfl⟩⟩
  · simp only [List.cons.injEq, and_true] at hcs
    simp only [if_true] at hmm
    subst hmm
    rw [Tryz.cells71] at hx
    by_cases h0 : len = 0
    · subst h0
      exact ⟨[], Or.inl ⟨_, _, hcs, rfl⟩⟩
    · obtain ⟨Xl, hF, hall⟩ := choose_list (p := fun i (x : Sv) => SvSize x ∧ W.cells? 0 (a.add (i * 13)) 13 = some [.string x.nm, .int .i64 x.ve, .bool x.gn, .int .i64 x.im, .int .i64 x.wa, .int .i64 x.dn, .int .i64 x.ov, .int .i64 x.nx, .int .i64 x.pr, .int .i64 x.ls, .int .i64 x.ms, .int .i64 x.ld, .int .i64 x.cl]) len (fun i hi => by
        obtain ⟨cs', h1, h2⟩ := hx i (by omega)
        obtain ⟨md, e, hz⟩ := open_Sv h2
        rw [e] at h1
        exact ⟨md, hz, h1⟩)
      obtain ⟨b, off, spot⟩ := a
      have hspot : spot = none := by
        obtain ⟨_, h1⟩ := hall 0 (by omega)
        have := (World.cells?_some h1).2.2 0 (by omega)
        rw [Nat.zero_mul] at this
        have e0 : ((⟨b, off, spot⟩ : Addr).add 0).add 0 = ⟨b, off, spot⟩ := by simp [Addr.add]
        rw [e0] at this
        simpa using World.cell?_spot (by simpa using this)
      subst hspot
      have hcell : ∀ i (hi : i < Xl.length), W.cells? 0 ((⟨b, off, none⟩ : Addr).add (i * 13)) 13 = some [.string Xl[i].nm, .int .i64 Xl[i].ve, .bool Xl[i].gn, .int .i64 Xl[i].im, .int .i64 Xl[i].wa, .int .i64 Xl[i].dn, .int .i64 Xl[i].ov, .int .i64 Xl[i].nx, .int .i64 Xl[i].pr, .int .i64 Xl[i].ls, .int .i64 Xl[i].ms, .int .i64 Xl[i].ld, .int .i64 Xl[i].cl] → SvCells W b (off + i * 13) Xl[i] := fun i hi h1 => by
        obtain ⟨_, _, hc⟩ := World.cells?_some h1
        rw [add_plain] at hc
        have q := fun j (hj : j < 13) => (add_plain b (off + i * 13) j) ▸ hc j hj
        exact ⟨by simpa using q 0 (by omega), by simpa using q 1 (by omega), by simpa using q 2 (by omega), by simpa using q 3 (by omega), by simpa using q 4 (by omega), by simpa using q 5 (by omega), by simpa using q 6 (by omega), by simpa using q 7 (by omega), by simpa using q 8 (by omega), by simpa using q 9 (by omega), by simpa using q 10 (by omega), by simpa using q 11 (by omega), by simpa using q 12 (by omega)⟩
      have hbw : b < W.heap.size := by
        obtain ⟨_, h1⟩ := hall 0 (by omega)
        exact World.block_lt_of_cell? W _ (hcell 0 (by omega) h1).c0
      refine ⟨Xl, Or.inr ⟨b, off, m, by rw [hcs, hF], ?_, by omega, hbw, Nat.zero_le _, by omega, fun i hi => ?_⟩⟩
      · intro e; rw [e] at hF; simp at hF; omega
      · obtain ⟨hz, h1⟩ := hall i hi
        exact ⟨hz, hcell i hi h1⟩
end
theorem Tryz.cells74 : Tryz.prog.cellsOf 74 = 7 := by kernel_rfl
theorem lstCp {l : List Value} (h : l.length = 7) : ∃ c0 c1 c2 c3 c4 c5 c6, l = [c0, c1, c2, c3, c4, c5, c6] := by
  match l, h with
  | [c0, c1, c2, c3, c4, c5, c6], _ => exact ⟨c0, c1, c2, c3, c4, c5, c6, rfl⟩
section
variable {H : Type} {enc : TypeId × Value → H} {W : World}
set_option maxRecDepth 100000 in
theorem open_Cp {fuel : Nat} {cs : List Value} {x : DataW H × List MemPlace} (h : DataW.trod enc Tryz.prog W 0 (fun _ => true) true fuel 74 cs = some x) :
    ∃ (x : Cp), cs = [.string x.se, .int .i64 x.nu, .int .i64 x.ve, .int .i64 x.im, .int .i64 x.st, .bool x.en, .string x.be] ∧ CpSize x := by
  obtain ⟨xs, n, _, _, hl, hlen, hfld⟩ := DataW.trod_struct Tryz.underlying74 h
  obtain ⟨c0, c1, c2, c3, c4, c5, c6, rfl⟩ := lstCp (hl.trans Tryz.cells74)
  simp only [Array.size, List.length_cons, List.length_nil] at hlen
  have g0 : DataW.trod enc Tryz.prog W 0 (fun _ => true) true n 9 ((([c0, c1, c2, c3, c4, c5, c6] : List Value).drop 0).take (Tryz.prog.cellsOf 9)) = xs[0]? := hfld 0 _ rfl
  have g1 : DataW.trod enc Tryz.prog W 0 (fun _ => true) true n 3 ((([c0, c1, c2, c3, c4, c5, c6] : List Value).drop 1).take (Tryz.prog.cellsOf 3)) = xs[1]? := hfld 1 _ rfl
  have g2 : DataW.trod enc Tryz.prog W 0 (fun _ => true) true n 3 ((([c0, c1, c2, c3, c4, c5, c6] : List Value).drop 2).take (Tryz.prog.cellsOf 3)) = xs[2]? := hfld 2 _ rfl
  have g3 : DataW.trod enc Tryz.prog W 0 (fun _ => true) true n 3 ((([c0, c1, c2, c3, c4, c5, c6] : List Value).drop 3).take (Tryz.prog.cellsOf 3)) = xs[3]? := hfld 3 _ rfl
  have g4 : DataW.trod enc Tryz.prog W 0 (fun _ => true) true n 3 ((([c0, c1, c2, c3, c4, c5, c6] : List Value).drop 4).take (Tryz.prog.cellsOf 3)) = xs[4]? := hfld 4 _ rfl
  have g5 : DataW.trod enc Tryz.prog W 0 (fun _ => true) true n 4 ((([c0, c1, c2, c3, c4, c5, c6] : List Value).drop 5).take (Tryz.prog.cellsOf 4)) = xs[5]? := hfld 5 _ rfl
  have g6 : DataW.trod enc Tryz.prog W 0 (fun _ => true) true n 9 ((([c0, c1, c2, c3, c4, c5, c6] : List Value).drop 6).take (Tryz.prog.cellsOf 9)) = xs[6]? := hfld 6 _ rfl
  simp only [Tryz.cells4, Tryz.cells3, Tryz.cells9, List.drop_succ_cons, List.drop_zero, List.take_succ_cons, List.take_zero] at g0 g1 g2 g3 g4 g5 g6
  rw [List.getElem?_eq_getElem (by omega)] at g0 g1 g2 g3 g4 g5 g6
  obtain ⟨q0, e0, _, s0⟩ := DataW.trod_string Tryz.underlying9 g0
  obtain ⟨q1, e1, _, _⟩ := DataW.trod_int Tryz.underlying3 g1
  obtain ⟨q2, e2, _, _⟩ := DataW.trod_int Tryz.underlying3 g2
  obtain ⟨q3, e3, _, _⟩ := DataW.trod_int Tryz.underlying3 g3
  obtain ⟨q4, e4, _, _⟩ := DataW.trod_int Tryz.underlying3 g4
  obtain ⟨q5, e5, _⟩ := DataW.trod_bool Tryz.underlying4 g5
  obtain ⟨q6, e6, _, s6⟩ := DataW.trod_string Tryz.underlying9 g6
  simp only [List.cons.injEq, and_true] at e0 e1 e2 e3 e4 e5 e6
  subst e0 e1 e2 e3 e4 e5 e6
  exact ⟨⟨q0, q1, q2, q3, q4, q5, q6⟩, rfl, ⟨s0, s6⟩⟩
set_option maxRecDepth 100000 in
theorem open_Cps {fuel : Nat} {c : Value} {x : DataW H × List MemPlace} (h : DataW.trod enc Tryz.prog W 0 (fun _ => true) true fuel 23 [c] = some x) : ∃ Xl, CpsAt 0 W c Xl := by
  rcases open_slice Tryz.underlying23 h with ⟨hcs, _⟩ | ⟨a, len, cap, m, n, D, Pl, hcs, _, hl, hm, hmm, _, hx⟩
  · simp only [List.cons.injEq, and_true] at hcs
    exact ⟨[], Or.inl ⟨_, _, hcs, rfl⟩⟩
  · simp only [List.cons.injEq, and_true] at hcs
    simp only [if_true] at hmm
    subst hmm
    rw [Tryz.cells74] at hx
    by_cases h0 : len = 0
    · subst h0
      exact ⟨[], Or.inl ⟨_, _, hcs, rfl⟩⟩
    · obtain ⟨Xl, hF, hall⟩ := choose_list (p := fun i (x : Cp) => CpSize x ∧ W.cells? 0 (a.add (i * 7)) 7 = some [.string x.se, .int .i64 x.nu, .int .i64 x.ve, .int .i64 x.im, .int .i64 x.st, .bool x.en, .string x.be]) len (fun i hi => by
        obtain ⟨cs', h1, h2⟩ := hx i (by omega)
        obtain ⟨md, e, hz⟩ := open_Cp h2
        rw [e] at h1
        exact ⟨md, hz, h1⟩)
      obtain ⟨b, off, spot⟩ := a
      have hspot : spot = none := by
        obtain ⟨_, h1⟩ := hall 0 (by omega)
        have := (World.cells?_some h1).2.2 0 (by omega)
        rw [Nat.zero_mul] at this
        have e0 : ((⟨b, off, spot⟩ : Addr).add 0).add 0 = ⟨b, off, spot⟩ := by simp [Addr.add]
        rw [e0] at this
        simpa using World.cell?_spot (by simpa using this)
      subst hspot
      have hcell : ∀ i (hi : i < Xl.length), W.cells? 0 ((⟨b, off, none⟩ : Addr).add (i * 7)) 7 = some [.string Xl[i].se, .int .i64 Xl[i].nu, .int .i64 Xl[i].ve, .int .i64 Xl[i].im, .int .i64 Xl[i].st, .bool Xl[i].en, .string Xl[i].be] → CpCells W b (off + i * 7) Xl[i] := fun i hi h1 => by
        obtain ⟨_, _, hc⟩ := World.cells?_some h1
        rw [add_plain] at hc
        have q := fun j (hj : j < 7) => (add_plain b (off + i * 7) j) ▸ hc j hj
        exact ⟨by simpa using q 0 (by omega), by simpa using q 1 (by omega), by simpa using q 2 (by omega), by simpa using q 3 (by omega), by simpa using q 4 (by omega), by simpa using q 5 (by omega), by simpa using q 6 (by omega)⟩
      have hbw : b < W.heap.size := by
        obtain ⟨_, h1⟩ := hall 0 (by omega)
        exact World.block_lt_of_cell? W _ (hcell 0 (by omega) h1).c0
      refine ⟨Xl, Or.inr ⟨b, off, m, by rw [hcs, hF], ?_, by omega, hbw, Nat.zero_le _, by omega, fun i hi => ?_⟩⟩
      · intro e; rw [e] at hF; simp at hF; omega
      · obtain ⟨hz, h1⟩ := hall i hi
        exact ⟨hz, hcell i hi h1⟩
end
theorem Tryz.cells77 : Tryz.prog.cellsOf 77 = 2 := by kernel_rfl
theorem lstBe {l : List Value} (h : l.length = 2) : ∃ c0 c1, l = [c0, c1] := by
  match l, h with
  | [c0, c1], _ => exact ⟨c0, c1, rfl⟩
section
variable {H : Type} {enc : TypeId × Value → H} {W : World}
set_option maxRecDepth 100000 in
theorem open_Be {fuel : Nat} {cs : List Value} {x : DataW H × List MemPlace} (h : DataW.trod enc Tryz.prog W 0 (fun _ => true) true fuel 77 cs = some x) :
    ∃ (x : Be), cs = [.string x.nm, .bool x.dr] ∧ BeSize x := by
  obtain ⟨xs, n, _, _, hl, hlen, hfld⟩ := DataW.trod_struct Tryz.underlying77 h
  obtain ⟨c0, c1, rfl⟩ := lstBe (hl.trans Tryz.cells77)
  simp only [Array.size, List.length_cons, List.length_nil] at hlen
  have g0 : DataW.trod enc Tryz.prog W 0 (fun _ => true) true n 9 ((([c0, c1] : List Value).drop 0).take (Tryz.prog.cellsOf 9)) = xs[0]? := hfld 0 _ rfl
  have g1 : DataW.trod enc Tryz.prog W 0 (fun _ => true) true n 4 ((([c0, c1] : List Value).drop 1).take (Tryz.prog.cellsOf 4)) = xs[1]? := hfld 1 _ rfl
  simp only [Tryz.cells4, Tryz.cells9, List.drop_succ_cons, List.drop_zero, List.take_succ_cons, List.take_zero] at g0 g1
  rw [List.getElem?_eq_getElem (by omega)] at g0 g1
  obtain ⟨q0, e0, _, s0⟩ := DataW.trod_string Tryz.underlying9 g0
  obtain ⟨q1, e1, _⟩ := DataW.trod_bool Tryz.underlying4 g1
  simp only [List.cons.injEq, and_true] at e0 e1
  subst e0 e1
  exact ⟨⟨q0, q1⟩, rfl, ⟨s0⟩⟩
set_option maxRecDepth 100000 in
theorem open_Bes {fuel : Nat} {c : Value} {x : DataW H × List MemPlace} (h : DataW.trod enc Tryz.prog W 0 (fun _ => true) true fuel 24 [c] = some x) : ∃ Xl, BesAt 0 W c Xl := by
  rcases open_slice Tryz.underlying24 h with ⟨hcs, _⟩ | ⟨a, len, cap, m, n, D, Pl, hcs, _, hl, hm, hmm, _, hx⟩
  · simp only [List.cons.injEq, and_true] at hcs
    exact ⟨[], Or.inl ⟨_, _, hcs, rfl⟩⟩
  · simp only [List.cons.injEq, and_true] at hcs
    simp only [if_true] at hmm
    subst hmm
    rw [Tryz.cells77] at hx
    by_cases h0 : len = 0
    · subst h0
      exact ⟨[], Or.inl ⟨_, _, hcs, rfl⟩⟩
    · obtain ⟨Xl, hF, hall⟩ := choose_list (p := fun i (x : Be) => BeSize x ∧ W.cells? 0 (a.add (i * 2)) 2 = some [.string x.nm, .bool x.dr]) len (fun i hi => by
        obtain ⟨cs', h1, h2⟩ := hx i (by omega)
        obtain ⟨md, e, hz⟩ := open_Be h2
        rw [e] at h1
        exact ⟨md, hz, h1⟩)
      obtain ⟨b, off, spot⟩ := a
      have hspot : spot = none := by
        obtain ⟨_, h1⟩ := hall 0 (by omega)
        have := (World.cells?_some h1).2.2 0 (by omega)
        rw [Nat.zero_mul] at this
        have e0 : ((⟨b, off, spot⟩ : Addr).add 0).add 0 = ⟨b, off, spot⟩ := by simp [Addr.add]
        rw [e0] at this
        simpa using World.cell?_spot (by simpa using this)
      subst hspot
      have hcell : ∀ i (hi : i < Xl.length), W.cells? 0 ((⟨b, off, none⟩ : Addr).add (i * 2)) 2 = some [.string Xl[i].nm, .bool Xl[i].dr] → BeCells W b (off + i * 2) Xl[i] := fun i hi h1 => by
        obtain ⟨_, _, hc⟩ := World.cells?_some h1
        rw [add_plain] at hc
        have q := fun j (hj : j < 2) => (add_plain b (off + i * 2) j) ▸ hc j hj
        exact ⟨by simpa using q 0 (by omega), by simpa using q 1 (by omega)⟩
      have hbw : b < W.heap.size := by
        obtain ⟨_, h1⟩ := hall 0 (by omega)
        exact World.block_lt_of_cell? W _ (hcell 0 (by omega) h1).c0
      refine ⟨Xl, Or.inr ⟨b, off, m, by rw [hcs, hF], ?_, by omega, hbw, Nat.zero_le _, by omega, fun i hi => ?_⟩⟩
      · intro e; rw [e] at hF; simp at hF; omega
      · obtain ⟨hz, h1⟩ := hall i hi
        exact ⟨hz, hcell i hi h1⟩
end
theorem Tryz.cells26 : Tryz.prog.cellsOf 26 = 4 := by kernel_rfl
theorem Tryz.cells22 : Tryz.prog.cellsOf 22 = 1 := by kernel_rfl
theorem Tryz.cells23 : Tryz.prog.cellsOf 23 = 1 := by kernel_rfl
theorem Tryz.cells24 : Tryz.prog.cellsOf 24 = 1 := by kernel_rfl
theorem array4 {cs : Array Value} (h : cs.size = 4) : ∃ c0 c1 c2 c3, cs = #[c0, c1, c2, c3] := by
  obtain ⟨l⟩ := cs
  match l, h with
  | [c0, c1, c2, c3], _ => exact ⟨c0, c1, c2, c3, rfl⟩
section
variable {H : Type} {enc : TypeId × Value → H} {W : World}
set_option maxRecDepth 100000 in
theorem open_sbook {r : Reach} {b0 : Nat} {v : Value} {d : DataW H} {p : List MemPlace} (hv : Value.okWide Tryz.prog W r b0 26 v) (h : DataW.Trod enc Tryz.prog W 0 (fun _ => true) true 26 v d p) :
    ∃ (sv cv bv : Value) (B : Sb), v = .agg #[.int .i64 B.now, sv, cv, bv] ∧ SbAt 0 W sv cv bv B := by
  obtain ⟨cs, rfl, hsz⟩ := okWide_struct Tryz.underlying26 hv
  obtain ⟨c0, c1, c2, c3, rfl⟩ := array4 (hsz.trans Tryz.cells26)
  obtain ⟨fuel, hf⟩ := h
  obtain ⟨xs, n, _, _, _, hlen, hfld⟩ := DataW.trod_struct Tryz.underlying26 hf
  simp only [Array.size, List.length_cons, List.length_nil] at hlen
  have g0 : DataW.trod enc Tryz.prog W 0 (fun _ => true) true n 3 ((([c0, c1, c2, c3] : List Value).drop 0).take (Tryz.prog.cellsOf 3)) = xs[0]? := hfld 0 _ rfl
  have g1 : DataW.trod enc Tryz.prog W 0 (fun _ => true) true n 22 ((([c0, c1, c2, c3] : List Value).drop 1).take (Tryz.prog.cellsOf 22)) = xs[1]? := hfld 1 _ rfl
  have g2 : DataW.trod enc Tryz.prog W 0 (fun _ => true) true n 23 ((([c0, c1, c2, c3] : List Value).drop 2).take (Tryz.prog.cellsOf 23)) = xs[2]? := hfld 2 _ rfl
  have g3 : DataW.trod enc Tryz.prog W 0 (fun _ => true) true n 24 ((([c0, c1, c2, c3] : List Value).drop 3).take (Tryz.prog.cellsOf 24)) = xs[3]? := hfld 3 _ rfl
  simp only [Tryz.cells3, Tryz.cells22, Tryz.cells23, Tryz.cells24, List.drop_succ_cons, List.drop_zero, List.take_succ_cons, List.take_zero] at g0 g1 g2 g3
  rw [List.getElem?_eq_getElem (by omega)] at g0 g1 g2 g3
  obtain ⟨q0, e0, _, _⟩ := DataW.trod_int Tryz.underlying3 g0
  simp only [List.cons.injEq, and_true] at e0
  subst e0
  obtain ⟨Ss, hS⟩ := open_Svs g1
  obtain ⟨Cs, hC⟩ := open_Cps g2
  obtain ⟨Bs, hB⟩ := open_Bes g3
  exact ⟨c1, c2, c3, ⟨q0, Ss, Cs, Bs⟩, rfl, hS, hC, hB⟩
end
end Go.Proofs.YtpdlcccnlciecaaGreat
