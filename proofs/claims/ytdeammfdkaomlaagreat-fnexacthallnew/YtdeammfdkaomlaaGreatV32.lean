import Derived.Test.YtdeammfdkaomlaaGreatV23
import Derived.Test.YtdeammfdkaomlaaGreatV25
import Derived.Test.YtdeammfdkaomlaaGreatV30
import Derived.Test.YtdeammfdkaomlaaGreatV31
import Derived.Deep.AppendLies
import Derived.Lib.LazyBuf
import Derived.Deep.RegionHeld3
import Derived.Deep.RegionWith
import Derived.WalkMore
import Derived.ProofKit
import Derived.Deep.Strs
namespace Go.Proofs.YtdeammfdkaomlaaGreat
open Go.RowKit Go.Deep

def TmsFillO (wr : World) (B : Nat) (Xl : List Tm) (k : Nat) (c : Nat → Nat) : Prop :=
  B < c 0 ∧ (∀ i, i < k → c i ≤ c (i + 1)) ∧ c k ≤ wr.heap.size ∧ ∃ f, wr.rowIs B 138 (Xl.length * 2) f ∧ ∀ i (h : i < Xl.length), i < k → TmSize Xl[i] ∧ f (i * 2) = .string Xl[i].nm ∧ f (i * 2 + 1) = .string Xl[i].ov
theorem TmsFillO.le {wr : World} {B : Nat} {Xl : List Tm} {k : Nat} {c : Nat → Nat} (h : TmsFillO wr B Xl k c) {i : Nat} : ∀ {j : Nat}, i ≤ j → j ≤ k → c i ≤ c j := by
  intro j
  induction j with
  | zero => intro hij _; have : i = 0 := by omega
            subst this; exact Nat.le_refl _
  | succ j ih =>
    intro hij hjn
    by_cases e : i = j + 1
    · subst e; exact Nat.le_refl _
    · exact Nat.le_trans (ih (by omega) (by omega)) (h.2.1 j (by omega))
theorem TmsFillO.below {wr w1 : World} {B : Nat} {Xl : List Tm} {k : Nat} {c : Nat → Nat} (h : TmsFillO wr B Xl k c) (hb : Below wr.heap.size wr w1) : TmsFillO w1 B Xl k c := by
  obtain ⟨g1, g2, g3, f, hr, hall⟩ := h
  refine ⟨g1, g2, Nat.le_trans g3 hb.size, f, hr.of_block (hb.block B hr.lt), fun i hi hik => ?_⟩
  obtain ⟨hz, h0, h1⟩ := hall i hi hik
  exact ⟨hz, h0, h1⟩
theorem TmsFillO.free {wr : World} {B : Nat} {Xl : List Tm} {k : Nat} {c : Nat → Nat} (h : TmsFillO wr B Xl k c) (i : Nat) : wr.frozen? ⟨B, i, none⟩ = false := by
  obtain ⟨_, _, _, f, hr, _⟩ := h
  exact hr.frozen i
theorem TmsFillO.there {wr : World} {B : Nat} {Xl : List Tm} {k : Nat} {c : Nat → Nat} (h : TmsFillO wr B Xl k c) (i : Nat) (hi : i < Xl.length * 2) : ∃ v, wr.cell? ⟨B, i, none⟩ = some v := by
  obtain ⟨_, _, _, f, hr, _⟩ := h
  exact ⟨_, hr.cell hi⟩
theorem TmsFillO.lt {wr : World} {B : Nat} {Xl : List Tm} {k : Nat} {c : Nat → Nat} (h : TmsFillO wr B Xl k c) : B < wr.heap.size := by
  obtain ⟨_, _, _, f, hr, _⟩ := h
  exact hr.lt
theorem TmsFillO.step {w1 : World} {B : Nat} {Xl : List Tm} {k : Nat} {c : Nat → Nat} (h : TmsFillO w1 B Xl k c) (hk : k < Xl.length) (hz : TmSize Xl[k]) (d : Nat) (hd0 : c k ≤ d) (hd : d ≤ w1.heap.size) :
    TmsFillO ((w1.setCell ⟨B, k * 2, none⟩ (.string Xl[k].nm)).setCell ⟨B, k * 2 + 1, none⟩ (.string Xl[k].ov)) B Xl (k + 1) (fun j => if j ≤ k then c j else d) := by
  have hle := fun i (hi : i ≤ k) => h.le (i := 0) (j := i) (Nat.zero_le _) hi
  have hle2 := fun i (hi : i < k) => h.le (i := i + 1) (j := k) (by omega) (Nat.le_refl _)
  obtain ⟨g1, g2, g3, f, hr, hall⟩ := h
  have hts : Touch B (B + 1) w1 ((w1.setCell ⟨B, k * 2, none⟩ (.string Xl[k].nm)).setCell ⟨B, k * 2 + 1, none⟩ (.string Xl[k].ov)) := (Touch.setB B _ _ _).trans (Touch.setB B _ _ _)
  refine ⟨by simpa using g1, fun i hi => ?_, ?_, _, ((hr.set _ _).set _ _), fun i hi hik => ?_⟩
  · dsimp only
    by_cases e : i = k
    · subst e; rw [if_pos (Nat.le_refl _), if_neg (by omega)]; exact hd0
    · rw [if_pos (by omega), if_pos (by omega)]; exact g2 i (by omega)
  · dsimp only; rw [if_neg (by omega)]; exact Nat.le_trans hd hts.size
  by_cases e : i = k
  · subst e
    have hb0 := hle i (Nat.le_refl _)
    exact ⟨hz, by simp, by simp⟩
  · have hb0 := hle i (by omega)
    obtain ⟨hz, h0, h1⟩ := hall i hi (by omega)
    refine ⟨hz, ?_, ?_⟩
    · rw [if_neg (by omega), if_neg (by omega)]; exact h0
    · rw [if_neg (by omega), if_neg (by omega)]; exact h1
theorem TmsFillO.own {wr : World} {B : Nat} {Xl : List Tm} {k : Nat} {c : Nat → Nat} (h : TmsFillO wr B Xl k c) (hk : k = Xl.length) (hne : Xl ≠ []) (hm : Xl.length ≤ maxLen) : TmsOwn B wr.heap.size wr (.slice (some ⟨B, 0, none⟩) Xl.length Xl.length) Xl := by
  subst hk
  obtain ⟨g1, g2, g3, f, hr, hall⟩ := h
  have h0 : 0 < Xl.length := List.length_pos_iff.2 hne
  refine Or.inr ⟨B, 0, Xl.length, c, fun i => if h : i < Xl.length then Xl[i] else Xl[0], rfl, hne, hm, Nat.le_refl _, fun i hi => by simp [hi], hr.lt, Nat.le_refl _, g1, hr.lt, g2, g3, fun i => hr.frozen i, fun i hi => ?_⟩
  obtain ⟨hz, h0, h1⟩ := hall i hi hi
  simp only [hi, dif_pos]
  rw [Nat.zero_add]
  exact ⟨hz, ⟨by rw [hr.cell (by omega), h0], by rw [hr.cell (by omega), h1]⟩⟩
theorem TmsFillO.new (w : World) (Xl : List Tm) (z : Array Value) : TmsFillO (w.alloc (.cells (madeCells z (Xl.length * 2)) 138)) w.heap.size Xl 0 (fun _ => w.heap.size + 1) := by
  refine ⟨Nat.lt_succ_self _, fun i hi => by omega, by simp, fun i => (madeCells z (Xl.length * 2)).getD i default, ?_, fun i _ h => by omega⟩
  have := World.rowIs_alloc w (madeCells z (Xl.length * 2)) 138 (fun i => (madeCells z (Xl.length * 2)).getD i default) (fun i hi => by simp [Array.getD, hi])
  rwa [size_madeCells] at this
set_option maxHeartbeats 4000000 in
theorem toTmsO_any (lo : Nat) (v : Value) (Xl : List Tm) (w : World) (hv : TmsAt lo w v Xl) (hn : TmsSmall Xl) :
    Calls Tryz.prog 30 #[v] w fun e w' => ∃ v', e = .returned v' ∧ Below w.heap.size w w' ∧ TmsOwn w.heap.size w'.heap.size w' v' Xl := by
  obtain ⟨i0, hi, hz0, hz1, hz2⟩ := info_parts Tryz.info138
  have HSM := hide hn.2
  have hn1 := hn.1
  clear hn
  by_cases hL : Xl = []
  · subst hL
    obtain ⟨a, cap, rfl⟩ := hv.form
    clear hv
    have hmk : ∀ u : World, (Instr.makeSlice 27 (.int .i64 0) (.int .i64 0)).run Tryz.prog u = .ok (.slice (some ⟨u.heap.size, 0, none⟩) 0 0) (u.alloc (.cells (madeCells (Value.cells (.agg #[.string ⟨#[]⟩, .string ⟨#[]⟩])) 0) 138)) := fun u => by
      have h := run_make (P := Tryz.prog) u 27 138 i0 _ Tryz.underlying27 hi hz0 .i64 .i64 0 0 (by omega) (by omega) (by omega) (by omega)
      simpa [hz1] using h
    go_enter Tryz.func30, Tryz.ntmps30
    go_wp2
    go_loop [4] (fun i => i = .int .i64 0) (fun _ => 0)
    case atStart => rfl
    case round =>
      subst hrel
      go_wp2
      go_ret
      exact ⟨_, rfl, (Below.refl _ _).alloc (Nat.le_refl _) _, Or.inl ⟨_, _, rfl, rfl⟩⟩
  · obtain ⟨b, off, cap, rfl, hm, hbw, _, hc⟩ := hv.full hL
    clear hv
    have HM : Hid (Xl.length ≤ maxLen) := hm
    unfold maxLen at hm
    have hmk : ∀ u : World, (Instr.makeSlice 27 (.int .i64 (Xl.length : Int)) (.int .i64 (Xl.length : Int))).run Tryz.prog u = .ok (.slice (some ⟨u.heap.size, 0, none⟩) Xl.length Xl.length) (u.alloc (.cells (madeCells (Value.cells (.agg #[.string ⟨#[]⟩, .string ⟨#[]⟩])) (Xl.length * 2)) 138)) := fun u => by
      have h := run_make (P := Tryz.prog) u 27 138 i0 _ Tryz.underlying27 hi hz0 .i64 .i64 Xl.length Xl.length (by omega) (by omega) (by rw [hz2]; omega) (by omega)
      rw [hz1] at h
      simpa using h
    clear hi hz0 hz1 hz2
    go_enter Tryz.func30, Tryz.ntmps30
    go_wp2
    clear hmk
    go_loopw [4] (fun i wr => ∃ (k : Nat) (c : Nat → Nat), i = .int .i64 k ∧ k ≤ Xl.length ∧ Below w.heap.size w wr ∧ TmsFillO wr w.heap.size Xl k c) (fun i _ => Xl.length - (intOf i).toNat)
    case atStart => exact ⟨0, _, rfl, by omega, (Below.refl _ _).alloc (Nat.le_refl _) _, TmsFillO.new w Xl _⟩
    case round =>
      obtain ⟨k, c, rfl, hk, hb, hf⟩ := hrel
      by_cases hlt : k < Xl.length
      · obtain ⟨hs, hc⟩ := hc k hlt
        have HB := hide hb
        have HF := hide hf
        have HSZ := hide hs
        obtain ⟨c0, c1⟩ := hc.below hb hbw
        clear hc hb hf hs
        go_wp2_with fail
        refine (toTeam_any _ _ _).mono ?_
        rintro e w1 ⟨rfl, hb1⟩
        have hf1 := HF.out.below hb1
        have hB : Hid (Below w.heap.size w w1) := HB.out.trans (hb1.mono HB.out.size)
        have HST := hide (hf1.step hlt HSZ.out w1.heap.size (Nat.le_trans HF.out.2.2.1 hb1.size) (Nat.le_refl _))
        have hfr := hf1.free
        obtain ⟨o0, ho0⟩ := hf1.there (k * 2) (by omega)
        obtain ⟨o1, ho1⟩ := hf1.there (k * 2 + 1) (by omega)
        clear hf1 hb1 HF HB c0 c1
        go_wp2
        go_roundw
        case rel =>
          exact ⟨k + 1, _, by go_num, by omega, ((hB.out.setCell (Nat.le_refl _) _).setCell (Nat.le_refl _) _), HST.out⟩
        case measure => simp [intOf]; omega
      · have e : k = Xl.length := by omega
        go_wp2
        go_ret
        exact ⟨_, rfl, hb, hf.own e hL HM.out⟩
end Go.Proofs.YtdeammfdkaomlaaGreat
namespace Go.Proofs.YtdeammfdkaomlaaGreat
open Go.RowKit Go.Deep

theorem Kept.set' (lo hi : Nat) (w : World) (p : Addr) (u : Value) (h : lo ≤ p.block ∧ p.block < hi) : Kept lo hi w (w.setCell p u) := by
  by_cases hc : (w.cell? p).isSome = true
  · exact Kept.setCell lo hi w p u h hc
  · refine ⟨Touch.setCell lo hi w p u h, fun q _ hq => ?_, fun q _ => by rw [World.frozen?_setCell]⟩
    have hne : q ≠ p := fun e => hc (e ▸ hq)
    rw [show (w.setCell p u).cell? q = w.cell? q from by apply World.cell?_setCell_other; first | exact hne | exact hne.symm]
    exact hq
theorem ShsW.far {lo hi lo' hi' : Nat} {w w' : World} {v : Value} {n : Nat} (h : ShsW lo hi w v n) (k : Kept lo' hi' w w') (ho : hi' ≤ lo ∨ hi ≤ lo') : ShsW lo hi w' v n := by
  rcases h with h | ⟨b, off, cap, m, h1, h2, h3, h4, h5, h6, h7, h8, h9⟩
  · exact Or.inl h
  · refine Or.inr ⟨b, off, cap, m, h1, h2, h3, h4, h5, h6, h7, h8, fun i hi hj => ?_⟩
    obtain ⟨fv, nf, hs, hf, hn⟩ := h9 i hi hj
    have g1 := h7 0 i (Nat.zero_le _)
    have g2 := h7 (i + 1) n (by omega)
    refine ⟨fv, nf, ⟨Nat.lt_of_lt_of_le hs.lt k.touch.size, k.there _ hs.lt hs.c0, (k.touch.cell (p := ⟨b, off + i * 2 + 1, none⟩) hs.lt (by simp only []; omega)).trans hs.one, fun i => (k.frz _ hs.lt).trans (hs.fr i)⟩, hf.kept k (by omega), hn⟩
def ShsB (lo hi : Nat) (w : World) (v : Value) (Ss : List Sh) : Prop := ShsAt lo w v Ss ∧ ShsW lo hi w v Ss.length
def MdsB (lo hi : Nat) (w : World) (v : Value) (Ms : List Md) : Prop := MdsAt lo w v Ms ∧ MdsW lo hi w v Ms.length
theorem ShsB.below {lo hi : Nat} {w w' : World} {v : Value} {Ss : List Sh} (h : ShsB lo hi w v Ss) (hb : Below w.heap.size w w') : ShsB lo hi w' v Ss := ⟨h.1.below hb, h.2.below hb⟩
theorem MdsB.below {lo hi : Nat} {w w' : World} {v : Value} {Ms : List Md} (h : MdsB lo hi w v Ms) (hb : Below w.heap.size w w') : MdsB lo hi w' v Ms := ⟨h.1.below hb, h.2.below hb⟩
theorem ShsB.setLow {lo hi : Nat} {w : World} {v : Value} {Ss : List Sh} (h : ShsB lo hi w v Ss) {p : Addr} (hp : p.block < lo) (u : Value) : ShsB lo hi (w.setCell p u) v Ss := ⟨h.1.set' hp u, h.2.far (Kept.set' p.block (p.block + 1) w p u ⟨Nat.le_refl _, Nat.lt_succ_self _⟩) (Or.inl hp)⟩
theorem MdsB.setLow {lo hi : Nat} {w : World} {v : Value} {Ms : List Md} (h : MdsB lo hi w v Ms) {p : Addr} (hp : p.block < lo) (u : Value) : MdsB lo hi (w.setCell p u) v Ms := ⟨h.1.setCell hp u, h.2.kept (Kept.set' p.block (p.block + 1) w p u ⟨Nat.le_refl _, Nat.lt_succ_self _⟩)⟩
theorem ShsB.form {lo hi : Nat} {w : World} {v : Value} {Ss : List Sh} (h : ShsB lo hi w v Ss) : ∃ a cap, v = .slice a Ss.length cap := h.1.form
theorem MdsB.form {lo hi : Nat} {w : World} {v : Value} {Ms : List Md} (h : MdsB lo hi w v Ms) : ∃ a cap, v = .slice a Ms.length cap := h.1.form
theorem TmsOwn.setLow {lo hi : Nat} {w : World} {v : Value} {Xl : List Tm} (h : TmsOwn lo hi w v Xl) {p : Addr} (hp : p.block < lo) (u : Value) : TmsOwn lo hi (w.setCell p u) v Xl := h.touch (Touch.setCell p.block (p.block + 1) w p u ⟨Nat.le_refl _, Nat.lt_succ_self _⟩) (Or.inr hp)
/-- a law of one's own -/
def LawOwn (lo hi : Nat) (w : World) (sv mv tv : Value) (Ss : List Sh) (Ms : List Md) (Ts : List Tm) : Prop :=
  ∃ s0 s1 m0 m1 t0 t1 : Nat, (lo ≤ s0 ∧ s1 ≤ hi) ∧ (lo ≤ m0 ∧ m1 ≤ hi) ∧ (lo ≤ t0 ∧ t1 ≤ hi) ∧ s1 ≤ t0 ∧ m1 ≤ t0 ∧ ShsB s0 s1 w sv Ss ∧ MdsB m0 m1 w mv Ms ∧ TmsOwn t0 t1 w tv Ts
theorem LawOwn.at {lo hi : Nat} {w : World} {sv mv tv : Value} {Ss : List Sh} {Ms : List Md} {Ts : List Tm} (h : LawOwn lo hi w sv mv tv Ss Ms Ts) : LawAt lo w sv mv tv Ss Ms Ts := by
  obtain ⟨s0, s1, m0, m1, t0, t1, g1, g2, g3, -, -, h1, h2, h3⟩ := h
  exact ⟨h1.1.mono g1.1, h2.1.mono g2.1, h3.at.mono g3.1⟩
theorem LawOwn.below {lo hi : Nat} {w w' : World} {sv mv tv : Value} {Ss : List Sh} {Ms : List Md} {Ts : List Tm} (h : LawOwn lo hi w sv mv tv Ss Ms Ts) (hb : Below w.heap.size w w') : LawOwn lo hi w' sv mv tv Ss Ms Ts := by
  obtain ⟨s0, s1, m0, m1, t0, t1, g1, g2, g3, g4, g5, h1, h2, h3⟩ := h
  exact ⟨s0, s1, m0, m1, t0, t1, g1, g2, g3, g4, g5, h1.below hb, h2.below hb, h3.below hb⟩

end Go.Proofs.YtdeammfdkaomlaaGreat
namespace Go.Proofs.YtdeammfdkaomlaaGreat
open Go.RowKit Go.Deep

/-- a list of one shape, of one's own -/
def ShOne (lo hi : Nat) (w : World) (v : Value) (x : Sh) : Prop :=
  ∃ (sb cap : Nat) (fv : Value) (f0 f1 : Nat), v = .slice (some ⟨sb, 0, none⟩) 1 cap ∧ 1 ≤ cap ∧ lo ≤ sb ∧ sb < hi ∧ sb < w.heap.size ∧ lo ≤ f0 ∧ f1 ≤ hi ∧ (sb < f0 ∨ f1 ≤ sb) ∧
    w.cell? ⟨sb, 0, none⟩ = some (.string x.kind) ∧ w.cell? ⟨sb, 1, none⟩ = some fv ∧ (∀ i, w.frozen? ⟨sb, i, none⟩ = false) ∧ x.kind.size ≤ maxLen ∧ FdsOwn f0 f1 w fv x.fields
theorem ShOne.touch {lo hi lo' hi' : Nat} {w w' : World} {v : Value} {x : Sh} (h : ShOne lo hi w v x) (ht : Touch lo' hi' w w') (ho : hi ≤ lo' ∨ hi' ≤ lo) : ShOne lo hi w' v x := by
  obtain ⟨sb, cap, fv, f0, f1, h1, h2, h3, h4, h5, h6, h7, h8, h9, h10, h11, h12, h13⟩ := h
  have hz := ht.size
  exact ⟨sb, cap, fv, f0, f1, h1, h2, h3, h4, by omega, h6, h7, h8, (ht.cell (p := ⟨sb, 0, none⟩) h5 (by simp only []; omega)).trans h9, (ht.cell (p := ⟨sb, 1, none⟩) h5 (by simp only []; omega)).trans h10, fun i => (ht.frozen (p := ⟨sb, i, none⟩) h5 (by simp only []; omega)).trans (h11 i), h12, h13.touch ht (by omega)⟩
theorem ShOne.below {lo hi : Nat} {w w' : World} {v : Value} {x : Sh} (h : ShOne lo hi w v x) (hb : Below w.heap.size w w') : ShOne lo hi w' v x := by
  obtain ⟨sb, cap, fv, f0, f1, h1, h2, h3, h4, h5, h6, h7, h8, h9, h10, h11, h12, h13⟩ := h
  have ht : Touch 0 0 w w' := Touch.below hb
  have hz := ht.size
  exact ⟨sb, cap, fv, f0, f1, h1, h2, h3, h4, by omega, h6, h7, h8, (ht.cell (p := ⟨sb, 0, none⟩) h5 (by simp only []; omega)).trans h9, (ht.cell (p := ⟨sb, 1, none⟩) h5 (by simp only []; omega)).trans h10, fun i => (ht.frozen (p := ⟨sb, i, none⟩) h5 (by simp only []; omega)).trans (h11 i), h12, h13.below hb⟩
theorem ShOne.at {lo hi : Nat} {w : World} {v : Value} {x : Sh} (h : ShOne lo hi w v x) : ShsAt lo w v [x] := by
  obtain ⟨sb, cap, fv, f0, f1, h1, h2, h3, h4, h5, h6, h7, h8, h9, h10, h11, h12, h13⟩ := h
  refine Or.inr ⟨sb, 0, cap, h1, by simp, by simp [maxLen], h5, h3, fun i hi => ?_⟩
  have : i = 0 := by simpa using hi
  subst this
  exact ⟨h12, fv, h9, h10, h13.at.mono h6⟩
end Go.Proofs.YtdeammfdkaomlaaGreat
namespace Go.Proofs.YtdeammfdkaomlaaGreat
open Go.RowKit Go.Deep

theorem ownsB_lt {base : Nat} {e : TypeId} {sz n : Nat} {W : World} {v : Value} {cs : List Value} (h : W.ownsRow base e sz v n cs) {g : Nat} (hg : v.ownBlock = some g) : g < W.heap.size ∧ base ≤ g ∧ ∀ i, W.frozen? ⟨g, i, none⟩ = false := by
  rcases h.2 with ⟨hv, _⟩ | ⟨g', cap, cur, hv, h1, h2, _⟩
  · rw [hv] at hg; cases hg
  · rw [hv] at hg
    have e : g' = g := by simpa [Value.ownBlock] using hg
    subst e
    refine ⟨?_, h1, fun i => by simp [World.frozen?, h2]⟩
    rcases Nat.lt_or_ge g' W.heap.size with h | h
    · exact h
    · rw [Array.getElem?_eq_none h] at h2; cases h2
theorem ownsB_made {base : Nat} (W : World) (g : Nat) (e : TypeId) (sz : Nat) (hg : W.heap.size = g) (hb : base ≤ g) : (W.alloc (.cells #[] e)).ownsRow base e sz (.slice (some ⟨g, 0, none⟩) 0 0) 0 [] := by
  subst hg
  exact World.ownsRow_made (base := base) (e := e) (size := sz) W #[] 0 hb (Nat.zero_le _) (by simp)
theorem ownsB_grown {base : Nat} {e : TypeId} {sz n : Nat} {W w' : World} {v : Value} {cs : List Value} (h : W.ownsRow base e sz v n cs) (hg : W.grownBy w' v.ownBlock) (hb : base ≤ W.heap.size) : Below base W w' := by
  have hlt := fun g hg => ownsB_lt h (g := g) hg
  exact ⟨hg.os, hg.tape, hg.output, hg.size, fun k hk => hg.block k (by omega) fun e => by have := (hlt k e.symm).2.1; omega⟩
def ivO (L : List Int) : List Value := L.map (Value.int .i64)
theorem ivO_oneCell (L : List Int) : ∀ u ∈ ivO L, u.oneCell' = true := fun u hu => by
  obtain ⟨x, _, rfl⟩ := List.mem_map.1 hu
  rfl
theorem IntsIn.newsO {lo : Nat} {w W : World} {ad : Addr} {cap : Nat} {L : List Int} (h : IntsIn lo w (.slice (some ad) L.length cap) L) (hb : Below w.heap.size w W) : ∀ j u, (ivO L)[j]? = some u → W.cell? (ad.add j) = some u := by
  intro j u hj
  have hl : j < L.length := by
    rcases Nat.lt_or_ge j L.length with h | h
    · exact h
    · rw [List.getElem?_eq_none (by unfold ivO; rw [List.length_map]; exact h)] at hj; cases hj
  obtain ⟨b, off, e, hlt, hc⟩ := h.full' (by omega)
  injection e with e
  subst e
  rw [Go.WideShapes.add_plain, hb.cell (p := ⟨b, off + j, none⟩) hlt, hc j hl, ← hj]
  unfold ivO
  rw [List.getElem?_map, List.getElem?_eq_getElem hl]
  rfl
theorem ownsB_ints {base : Nat} {W : World} {v : Value} {L : List Int} (h : W.ownsRow base 3 1 v L.length (ivO L)) : IntsOwn base W.heap.size W v L := by
  by_cases hL : L = []
  · subst hL
    rcases h.2 with ⟨hv, _⟩ | ⟨g, cap, cur, hv, _⟩
    · exact Or.inl ⟨_, _, hv, rfl⟩
    · exact Or.inl ⟨_, _, hv, rfl⟩
  · rcases h.2 with ⟨_, hn⟩ | ⟨g, cap, cur, hv, h1, h2, h3, h4, _⟩
    · exact absurd (List.length_eq_zero_iff.1 hn) hL
    · have hl := ownsB_lt h (g := g) (by rw [hv]; rfl)
      have ho := h
      subst hv
      refine Or.inr ⟨g, 0, cap, rfl, hL, Nat.le_trans h3 h4, hl.1, fun i hi => ?_, hl.2.1, hl.1, fun i => hl.2.2 _⟩
      rw [Nat.zero_add, ho.cellAt i (by omega)]
      unfold ivO
      rw [List.getElem?_map, List.getElem?_eq_getElem hi]
      rfl

set_option maxRecDepth 20000 in
set_option maxHeartbeats 4000000 in
theorem cloneInts_any (lo : Nat) (v : Value) (L : List Int) (w : World) (hv : IntsIn lo w v L) (hn : L.length ≤ 1048576) :
    Calls Tryz.prog 166 #[v] w fun e w' => ∃ v', e = .returned v' ∧ Below w.heap.size w w' ∧ IntsOwn w.heap.size w'.heap.size w' v' L := by
  have hnil := fun W a n c => Lib.run_eql_slice_nil (P := Tryz.prog) W 51 3 a n c 0 0 Tryz.underlying51
  obtain ⟨i0, hi, hz0, hz1, hz2⟩ := info_parts Tryz.info3
  have HI := hide (And.intro hi (And.intro hz0 (And.intro hz1 hz2)))
  clear hi hz0 hz1 hz2
  have HV := hide hv
  obtain ⟨a, cap, rfl⟩ := hv.form
  clear hv
  cases a with
  | none =>
    have hL : L = [] := by
      rcases HV.out with ⟨_, _, _, h⟩ | ⟨_, _, _, h, _⟩
      · exact h
      · injection h with h; cases h
    subst hL
    go_enter Tryz.func166, Tryz.ntmps166
    go_wp2
    go_ret
    exact ⟨_, rfl, Below.refl _ _, Or.inl ⟨_, _, rfl, rfl⟩⟩
  | some ad =>
    go_enter Tryz.func166, Tryz.ntmps166
    go_wp2_with (at_builtin; refine wpList_append_own_at _ rfl (.tmp 5) (.tmp 6) 51 rfl w.heap.size 3 i0 (.int .i64 0) 1 8 Tryz.underlying51 HI.out.1 HI.out.2.1 HI.out.2.2.1 HI.out.2.2.2 rfl (by decide) _ 0 [] rfl (ownsB_made _ _ 3 1 rfl (Nat.le_refl _)) ad L.length cap (ivO L) rfl (by unfold ivO; rw [List.length_map, Nat.mul_one]) (HV.out.newsO (one_al _ _)) (ivO_oneCell _) (by unfold maxLen; omega) (by omega) (by simp) ?_; intro v' w4 hown4 hgrow4 hnil4 hat4)
    rw [Nat.zero_add, List.nil_append] at hown4
    have HO : Hid (IntsOwn w.heap.size w4.heap.size w4 v' L) := ownsB_ints hown4
    have HB : Hid (Below w.heap.size w w4) := (one_al _ _).trans (ownsB_grown (ownsB_made w w.heap.size 3 1 rfl (Nat.le_refl _)) hgrow4 (by simp))
    clear hown4 hgrow4 hnil4 hat4
    go_wp2
    go_ret
    exact ⟨_, rfl, HB.out, HO.out⟩

end Go.Proofs.YtdeammfdkaomlaaGreat
namespace Go.Proofs.YtdeammfdkaomlaaGreat
open Go.RowKit Go.Deep

theorem Touch.grown {w w' : World} {g : Nat} (h : w.grownBy w' (some g)) : Touch g (g + 1) w w' := ⟨h.os, h.tape, h.output, h.size, fun k hk ho => h.block k hk fun e => by have := Option.some.inj e; omega⟩
theorem Below.grown {w w' : World} (h : w.grownBy w' none) : Below w.heap.size w w' := ⟨h.os, h.tape, h.output, h.size, fun k hk => h.block k hk fun e => by cases e⟩
theorem Below.ownsB {base : Nat} {e : TypeId} {sz n : Nat} {W W' : World} {v : Value} {cs : List Value} (h : W.ownsRow base e sz v n cs) (hb : Below W.heap.size W W') : W'.ownsRow base e sz v n cs := by
  refine ⟨h.1, ?_⟩
  have hlt := fun g hg => ownsB_lt h (g := g) hg
  rcases h.2 with hv | ⟨g, cap, cur, hv, h1, h2, h3⟩
  · exact Or.inl hv
  · have hg := hlt g (by rw [hv]; rfl)
    exact Or.inr ⟨g, cap, cur, hv, h1, by rw [hb.block g hg.1]; exact h2, h3⟩
theorem Touch.ownsB {base lo hi : Nat} {e : TypeId} {sz n : Nat} {W W' : World} {v : Value} {cs : List Value} (h : W.ownsRow base e sz v n cs) (ht : Touch lo hi W W') (hh : hi ≤ base) : W'.ownsRow base e sz v n cs := by
  refine ⟨h.1, ?_⟩
  have hlt := fun g hg => ownsB_lt h (g := g) hg
  rcases h.2 with hv | ⟨g, cap, cur, hv, h1, h2, h3⟩
  · exact Or.inl hv
  · have hg := hlt g (by rw [hv]; rfl)
    exact Or.inr ⟨g, cap, cur, hv, h1, by rw [ht.block g hg.1 (by omega)]; exact h2, h3⟩
theorem ownsB_form {base : Nat} {e : TypeId} {sz n : Nat} {W : World} {v : Value} {cs : List Value} (h : W.ownsRow base e sz v n cs) : ∃ a cap, v = .slice a n cap := by
  rcases h.2 with ⟨hv, hn⟩ | ⟨g, cap, cur, hv, _⟩
  · rw [hn]; exact ⟨_, _, hv⟩
  · exact ⟨_, _, hv⟩
theorem ownsB_none {base : Nat} (W : World) (e : TypeId) (sz : Nat) : W.ownsRow base e sz (.slice none 0 0) 0 [] := ⟨by simp, Or.inl ⟨rfl, rfl⟩⟩
end Go.Proofs.YtdeammfdkaomlaaGreat
namespace Go.Proofs.YtdeammfdkaomlaaGreat
open Go.RowKit Go.Deep

/-- the cells of parts with their inner lists -/
def Grcs (x : Gr × Value) : List Value := [.int .i64 x.1.nu, .string x.1.tw, .string x.1.gb, x.2, .string x.1.kd, .string x.1.tm, .string x.1.pf]
def Grgs : List (Gr × Value) → List Value
  | [] => []
  | x :: L => Grcs x ++ Grgs L
theorem Grgs_app : ∀ (A B : List (Gr × Value)), Grgs (A ++ B) = Grgs A ++ Grgs B
  | [], B => rfl
  | x :: A, B => by simp only [List.cons_append, Grgs, Grgs_app A B, List.append_assoc]
theorem Grgs_at : ∀ (L : List (Gr × Value)) (i : Nat) (h : i < L.length), (Grgs L)[i * 7]? = some (.int .i64 L[i].1.nu) ∧ (Grgs L)[i * 7 + 1]? = some (.string L[i].1.tw) ∧ (Grgs L)[i * 7 + 2]? = some (.string L[i].1.gb) ∧ (Grgs L)[i * 7 + 3]? = some (L[i].2) ∧ (Grgs L)[i * 7 + 4]? = some (.string L[i].1.kd) ∧ (Grgs L)[i * 7 + 5]? = some (.string L[i].1.tm) ∧ (Grgs L)[i * 7 + 6]? = some (.string L[i].1.pf)
  | [], i, h => by simp at h
  | x :: L, 0, _ => ⟨rfl, rfl, rfl, rfl, rfl, rfl, rfl⟩
  | x :: L, i + 1, h => by
    have := Grgs_at L i (by simpa using h)
    have e : ∀ j, (Grgs (x :: L))[(i + 1) * 7 + j]? = (Grgs L)[i * 7 + j]? := fun j => by
      rw [show (i + 1) * 7 + j = (i * 7 + j) + 1 + 1 + 1 + 1 + 1 + 1 + 1 by omega]
      rfl
    have e0 : (Grgs (x :: L))[(i + 1) * 7]? = (Grgs L)[i * 7]? := e 0
    simp only [List.getElem_cons_succ]
    exact ⟨e0.trans this.1, (e 1).trans this.2.1, (e 2).trans this.2.2.1, (e 3).trans this.2.2.2.1, (e 4).trans this.2.2.2.2.1, (e 5).trans this.2.2.2.2.2.1, (e 6).trans this.2.2.2.2.2.2⟩
structure GrGrow (base : Nat) (W : World) (v : Value) (L : List (Gr × Value)) (c : Nat → Nat × Nat) : Prop where
  own : W.ownsRow base 133 7 v L.length (Grgs L)
  sz : ∀ i (h : i < L.length), GrSize L[i].1
  inn : ∀ i (h : i < L.length), (c i).1 ≤ (c i).2 ∧ IntsOwn (c i).1 (c i).2 W L[i].2 L[i].1.vb
  seg : ∀ i, i < L.length → base ≤ (c i).1 ∧ (c i).2 ≤ W.heap.size ∧ ∀ g, v.ownBlock = some g → g < (c i).1 ∨ (c i).2 ≤ g
  mono : ∀ i j, i < j → j < L.length → (c i).2 ≤ (c j).1
theorem GrGrow.start (base : Nat) (W : World) : GrGrow base W (.slice none 0 0) [] (fun _ => (0, 0)) :=
  ⟨ownsB_none _ _ _, fun i h => by simp at h, fun i h => by simp at h, fun i h => by simp at h, fun i j _ h => by simp at h⟩
theorem GrGrow.below {base : Nat} {W W' : World} {v : Value} {L : List (Gr × Value)} {c : Nat → Nat × Nat} (h : GrGrow base W v L c) (hb : Below W.heap.size W W') : GrGrow base W' v L c :=
  ⟨Below.ownsB h.own hb, h.sz, fun i hi => by obtain ⟨q0, l0⟩ := h.inn i hi; exact ⟨q0, l0.below hb⟩, fun i hi => ⟨(h.seg i hi).1, Nat.le_trans (h.seg i hi).2.1 hb.size, (h.seg i hi).2.2⟩, h.mono⟩
theorem GrGrow.touch {base lo hi : Nat} {W W' : World} {v : Value} {L : List (Gr × Value)} {c : Nat → Nat × Nat} (h : GrGrow base W v L c) (ht : Touch lo hi W W') (hh : hi ≤ base) : GrGrow base W' v L c :=
  ⟨Touch.ownsB h.own ht hh, h.sz, fun i hi => by have hsg := h.seg i hi; obtain ⟨q0, l0⟩ := h.inn i hi; exact ⟨q0, l0.touch ht (by omega)⟩, fun i hi => ⟨(h.seg i hi).1, Nat.le_trans (h.seg i hi).2.1 ht.size, (h.seg i hi).2.2⟩, h.mono⟩
theorem GrGrow.snoc {base c0 c1 g cap : Nat} {W W1 W' : World} {v : Value} {L : List (Gr × Value)} {c : Nat → Nat × Nat} (h : GrGrow base W v L c) (hb1 : Below W.heap.size W W1) (x : Gr × Value) (hz : GrSize x.1) (hc0 : W.heap.size ≤ c0) (hc1 : c1 ≤ W1.heap.size) (hbase : base ≤ W.heap.size) (q0 : c0 ≤ c1) (e0 : IntsOwn c0 c1 W1 x.2 x.1.vb)
    (hown : W'.ownsRow base 133 7 (.slice (some ⟨g, 0, none⟩) (L.length + 1) cap) (L.length + 1) (Grgs L ++ Grcs x)) (hgrow : W1.grownBy W' v.ownBlock) (hat : v.ownBlock = some g ∨ g = W1.heap.size) :
    GrGrow base W' (.slice (some ⟨g, 0, none⟩) (L.length + 1) cap) (L ++ [x]) (fun i => if i < L.length then c i else (c0, c1)) := by
  have hsz := hgrow.size
  have hs1 := hb1.size
  have hlen : (L ++ [x]).length = L.length + 1 := by simp
  have hgx : Grgs (L ++ [x]) = Grgs L ++ Grcs x := by rw [Grgs_app]; simp [Grgs]
  have hnew : ∀ lo hi, (∀ g', v.ownBlock = some g' → g' < lo ∨ hi ≤ g') → hi ≤ W1.heap.size → (Touch hi hi W1 W' ∨ ∃ g', Touch g' (g' + 1) W1 W' ∧ (g' < lo ∨ hi ≤ g')) := fun lo hi hv hhi => by
    cases hvo : v.ownBlock with
    | none => rw [hvo] at hgrow; exact Or.inl (Touch.below (Below.grown hgrow))
    | some g' => rw [hvo] at hgrow; exact Or.inr ⟨g', Touch.grown hgrow, hv g' hvo⟩
  have hlt := fun g' hg' => (ownsB_lt h.own (g := g') hg').1
  have hvb : ∀ g', v.ownBlock = some g' → g' < c0 ∨ c1 ≤ g' := fun g' hg' => Or.inl (by have := hlt g' hg'; omega)
  refine ⟨by rw [hlen, hgx]; exact hown, fun i hi => ?_, fun i hi => ?_, fun i hi => ?_, fun i j hij hj => ?_⟩
  · by_cases e : i < L.length
    · rw [List.getElem_append_left e]; exact h.sz i e
    · have e' : i = L.length := by omega
      subst e'
      simp only [List.getElem_append_right (Nat.le_refl _), Nat.sub_self, List.getElem_cons_zero]; exact hz
  · by_cases e : i < L.length
    · rw [List.getElem_append_left e, if_pos e]
      have hsg := h.seg i e
      obtain ⟨q0, l0⟩ := h.inn i e
      rcases hnew (c i).1 (c i).2 hsg.2.2 (by omega) with ht | ⟨g', ht, hg'⟩
      · exact ⟨q0, (l0.below hb1).touch ht (by omega)⟩
      · exact ⟨q0, (l0.below hb1).touch ht (by omega)⟩
    · have e' : i = L.length := by omega
      subst e'
      rw [if_neg e]
      simp only [List.getElem_append_right (Nat.le_refl _), Nat.sub_self, List.getElem_cons_zero]
      rcases hnew c0 c1 hvb hc1 with ht | ⟨g', ht, hg'⟩
      · exact ⟨q0, e0.touch ht (by omega)⟩
      · exact ⟨q0, e0.touch ht (by omega)⟩
  · have hgg : ∀ g', (Value.slice (some ⟨g, 0, none⟩) (L.length + 1) cap).ownBlock = some g' → g' = g := fun g' hg' => (Option.some.inj hg').symm
    by_cases e : i < L.length
    · rw [if_pos e]
      have hsg := h.seg i e
      refine ⟨hsg.1, by omega, fun g' hg' => ?_⟩
      rw [hgg g' hg']
      rcases hat with hat | hat
      · exact hsg.2.2 g hat
      · exact Or.inr (by omega)
    · rw [if_neg e]
      refine ⟨by simp only []; omega, by simp only []; omega, fun g' hg' => ?_⟩
      rw [hgg g' hg']
      rcases hat with hat | hat
      · exact hvb g hat
      · exact Or.inr (by simp only []; omega)
  · rw [hlen] at hj
    by_cases e : j < L.length
    · rw [if_pos e, if_pos (by omega)]; exact h.mono i j hij e
    · rw [if_neg e, if_pos (by omega)]
      have := (h.seg i (by omega)).2.1
      simp only []
      omega
theorem GrGrow.owns {base : Nat} {W : World} {v : Value} {L : List (Gr × Value)} {c : Nat → Nat × Nat} (h : GrGrow base W v L c) {Xl : List Gr} (hX : L.map Prod.fst = Xl) : GrsOwn base W.heap.size W v Xl := by
  subst hX
  by_cases hL : L = []
  · subst hL
    obtain ⟨a, cap, rfl⟩ := ownsB_form h.own
    exact Or.inl ⟨_, _, rfl, rfl⟩
  · rcases h.own.2 with ⟨_, hn⟩ | ⟨g, cap, cur, hv, h1, h2, h3, h4, _⟩
    · exact absurd (List.length_eq_zero_iff.1 hn) hL
    · have hl := ownsB_lt h.own (g := g) (by rw [hv]; rfl)
      have ho := h.own
      have hp : 0 < L.length := List.length_pos_iff.2 hL
      have hsg := h.seg
      subst hv
      refine Or.inr ⟨g, 0, cap, c, fun i => if h : i < L.length then L[i].1 else L[0].1, by rw [List.length_map], by simpa using hL, by rw [List.length_map]; exact Nat.le_trans h3 h4, by rw [List.length_map]; exact h3, fun i hi => ?_, hl.1, hl.2.1, hl.1, fun i hi => ?_, fun i j hij hj => ?_, fun i => hl.2.2 i, fun i hi => ?_⟩
      · have hi' : i < L.length := by simpa using hi
        simp [hi']
      · have hi' : i < L.length := by simpa using hi
        exact ⟨(hsg i hi').1, (hsg i hi').2.1, (hsg i hi').2.2 g rfl⟩
      · exact h.mono i j hij (by simpa using hj)
      · have hi' : i < L.length := by simpa using hi
        obtain ⟨d0, d1, d2, d3, d4, d5, d6⟩ := Grgs_at L i hi'
        obtain ⟨q0, l0⟩ := h.inn i hi'
        have ce : ∀ j, j < 7 → W.cell? ⟨g, 0 + i * 7 + j, none⟩ = (Grgs L)[i * 7 + j]? := fun j hj => by rw [Nat.zero_add]; exact ho.cellAt _ (by omega)
        simp only [hi', dif_pos]
        exact ⟨h.sz i hi', _, q0, ⟨(ce 0 (by omega)).trans d0, (ce 1 (by omega)).trans d1, (ce 2 (by omega)).trans d2, (ce 3 (by omega)).trans d3, (ce 4 (by omega)).trans d4, (ce 5 (by omega)).trans d5, (ce 6 (by omega)).trans d6⟩, l0⟩
end Go.Proofs.YtdeammfdkaomlaaGreat
namespace Go.Proofs.YtdeammfdkaomlaaGreat
open Go.RowKit Go.Deep

theorem stopHereB {P : Prop} (h : Hid P) : P := h.out
theorem three_alB (X : World) (a b c : Obj) : Below X.heap.size X (((X.alloc a).alloc b).alloc c) := (((Below.refl _ _).alloc (Nat.le_refl _) _).alloc (by simp) _).alloc (by simp; omega) _

set_option maxHeartbeats 2000000 in
theorem l5RuleO_any (lo : Nat) (r : Ru) (vv : Value) (w : World) (hv : IntsIn lo w vv r.vb) (hn : r.vb.length ≤ 1048576) :
    Calls Tryz.prog 95 #[.agg #[vv, .string r.kd, .string r.tm, .string r.pf]] w fun e w' => ∃ v', e = .returned (.agg #[v', .string r.kd, .string r.tm, .string r.pf]) ∧ Below w.heap.size w w' ∧ IntsOwn w.heap.size w'.heap.size w' v' r.vb := by
  obtain ⟨i0, hi, hz0, hz1, hz2⟩ := info_parts Tryz.info3
  have HI := hide (And.intro hi (And.intro hz0 (And.intro hz1 hz2)))
  clear hi hz0 hz1 hz2
  have HV := hide hv
  obtain ⟨a, cap, rfl⟩ := hv.form
  clear hv
  cases a with
  | none =>
    have hL : r.vb = [] := by
      rcases HV.out with ⟨_, _, _, h⟩ | ⟨_, _, _, h, _⟩
      · exact h
      · injection h with h; cases h
    obtain ⟨vb, kd, tm, pf⟩ := r
    simp only [] at hL
    subst hL
    go_enter Tryz.func95, Tryz.ntmps95
    go_wp2
    refine bodyPost_ret (v := .agg #[.slice (some ⟨w.heap.size + 1 + 1, 0, none⟩) 0 0, .string kd, .string tm, .string pf]) (by simp [results, Tryz.results95, go_sem]) rfl ⟨_, rfl, three_alB _ _ _ _, Or.inl ⟨_, _, rfl, rfl⟩⟩
  | some ad =>
    go_enter Tryz.func95, Tryz.ntmps95
    go_wp2_with (at_builtin; apply stopHereB)
    unfold Hid
    (refine wpList_append_own_at _ rfl (.tmp 3) (.tmp 5) 51 rfl (w.heap.size + 2) 3 i0 (.int .i64 0) 1 8 Tryz.underlying51 HI.out.1 HI.out.2.1 HI.out.2.2.1 HI.out.2.2.2 rfl (by decide) _ 0 [] rfl (ownsB_made _ _ 3 1 (by simp) (by omega)) ad r.vb.length cap (ivO r.vb) rfl (by unfold ivO; rw [List.length_map, Nat.mul_one]) (HV.out.newsO (three_alB _ _ _ _)) (ivO_oneCell _) (by unfold maxLen; omega) (by omega) (by simp) ?_; intro v' w4 hown4 hgrow4 hnil4 hat4)
    rw [Nat.zero_add, List.nil_append] at hown4
    have hB : Below (w.heap.size + 2) _ w4 := ownsB_grown (ownsB_made _ (w.heap.size + 1 + 1) 3 1 (by simp) (by omega)) hgrow4 (by simp)
    have HO : Hid (IntsOwn (w.heap.size + 2) w4.heap.size w4 v' r.vb) := ownsB_ints hown4
    have HB : Hid (Below w.heap.size w w4) := (three_alB _ _ _ _).trans (hB.mono (by omega))
    have hz : w.heap.size + 1 < w4.heap.size := by have := hB.size; simp at this; omega
    have b1 : Box w4 w.heap.size #[.slice (some ad) r.vb.length cap, .string r.kd, .string r.tm, .string r.pf] := (((Box.new w _ 131 w.heap.size rfl).on (one_al _ _)).on (one_al _ _)).below hB (by omega)
    have b2 : Box w4 (w.heap.size + 1) #[.slice none 0 0, .string ⟨#[]⟩, .string ⟨#[]⟩, .string ⟨#[]⟩] := ((Box.new _ _ 131 (w.heap.size + 1) (by simp)).on (one_al _ _)).below hB (by omega)
    obtain ⟨a', cap', rfl⟩ := HO.out.form
    simp only []
    have c0 := b1.cell 0
    have c1 := b1.cell 1
    have c2 := b1.cell 2
    have c3 := b1.cell 3
    have d0 := b2.cell 0
    have d1 := b2.cell 1
    have d2 := b2.cell 2
    have d3 := b2.cell 3
    have f0 := b1.free
    have f1 := b2.free
    clear b1 b2 hown4 hB hgrow4 hnil4 hat4
    go_wp2
    refine bodyPost_ret (v := .agg #[.slice a' r.vb.length cap', .string r.kd, .string r.tm, .string r.pf]) (by simp [results, Tryz.results95, go_sem, d0, d1, d2, d3]) rfl ⟨_, rfl, ?_, ?_⟩
    · repeat (refine Below.setCell ?_ (by simp only []; omega) _)
      exact HB.out
    · refine IntsOwn.wide (lo := w.heap.size + 2) (hi := w4.heap.size) ?_ (by omega) (by simp [World.setCell])
      repeat (refine IntsOwn.setLow ?_ (by simp only []; omega) _)
      exact HO.out
end Go.Proofs.YtdeammfdkaomlaaGreat
namespace Go.Proofs.YtdeammfdkaomlaaGreat
open Go.RowKit Go.Deep

set_option maxHeartbeats 1000000 in
theorem copyGr_any (lo : Nat) (x : Gr) (vv0 : Value) (w : World) (hv0 : IntsIn lo w vv0 x.vb) (hn : GrSmall x) :
    Calls Tryz.prog 104 #[.agg #[.int .i64 x.nu, .string x.tw, .string x.gb, vv0, .string x.kd, .string x.tm, .string x.pf]] w
      fun e w' => ∃ z0, e = .returned (.agg #[.int .i64 x.nu, .string x.tw, .string x.gb, z0, .string x.kd, .string x.tm, .string x.pf]) ∧ Below w.heap.size w w' ∧ IntsOwn w.heap.size w'.heap.size w' z0 x.vb := by
  have HV := hide hv0
  obtain ⟨a, cap, rfl⟩ := hv0.form
  clear hv0
  go_enter Tryz.func104, Tryz.ntmps104
  go_wp2_with fail
  refine (cloneInts_any lo _ x.vb _ (HV.out.below ?_) hn).mono ?_
  · exact ((Below.refl _ _).alloc (Nat.le_refl _) _).alloc (by simp) _
  rintro e w1 ⟨v', rfl, hb, hs⟩
  obtain ⟨a', cap', rfl⟩ := hs.form
  have HS : Hid (IntsOwn (w.heap.size + 2) w1.heap.size w1 (.slice a' x.vb.length cap') x.vb) := hs.wide (by simp) (Nat.le_refl _)
  clear hs
  have hz : w.heap.size + 1 < w1.heap.size := by have := hb.size; simp at this; omega
  have hc : ∀ b o, b < w.heap.size + 2 → w1.cell? ⟨b, o, none⟩ = _ := fun b o h => hb.cell (p := ⟨b, o, none⟩) (by simpa using h)
  have hf : ∀ b o, b < w.heap.size + 2 → w1.frozen? ⟨b, o, none⟩ = _ := fun b o h => hb.frozen (p := ⟨b, o, none⟩) (by simpa using h)
  have HB : Hid (Below w.heap.size w w1) := (((Below.refl _ _).alloc (Nat.le_refl _) _).alloc (by simp) _).trans (hb.mono (by simp; omega))
  clear hb
  go_wp2
  refine bodyPost_ret (v := .agg #[.int .i64 x.nu, .string x.tw, .string x.gb, (.slice a' x.vb.length cap'), .string x.kd, .string x.tm, .string x.pf]) (by simp [results, Tryz.results104, go_sem, hc]) rfl ⟨_, rfl, ?_, ?_⟩
  · repeat (refine Below.setCell ?_ (by simp only []; omega) _)
    exact HB.out
  · refine IntsOwn.wide (lo := w.heap.size + 2) (hi := w1.heap.size) ?_ (by omega) (by simp [World.setCell])
    repeat (refine IntsOwn.setLow ?_ (by simp only []; omega) _)
    exact HS.out

set_option maxRecDepth 20000 in
set_option maxHeartbeats 4000000 in
theorem eachGrs_any (lo : Nat) (v : Value) (Xl : List Gr) (w : World) (hv : GrsAt lo w v Xl) (hn : GrsSmall Xl) :
    Calls Tryz.prog 103 #[v, .func (.func 104) #[] #[]] w fun e w' => ∃ v', e = .returned v' ∧ Below w.heap.size w w' ∧ GrsOwn w.heap.size w'.heap.size w' v' Xl := by
  have hnil := fun W a n c => Lib.run_eql_slice_nil (P := Tryz.prog) W 28 133 a n c 0 0 Tryz.underlying28
  obtain ⟨i0, hi, hz0, hz1, hz2⟩ := info_parts Tryz.info133
  have HSM := hide hn.2
  have hn1 := hn.1
  clear hn
  by_cases hL : Xl = []
  · subst hL
    obtain ⟨a, cap, rfl⟩ := hv.form
    clear hv
    have hmk : ∀ u : World, (Instr.makeSlice 28 (.int .i64 0) (.int .i64 0)).run Tryz.prog u = .ok (.slice (some ⟨u.heap.size, 0, none⟩) 0 0) (u.alloc (.cells (madeCells (Value.cells (.agg #[.int .i64 0, .string ⟨#[]⟩, .string ⟨#[]⟩, .slice none 0 0, .string ⟨#[]⟩, .string ⟨#[]⟩, .string ⟨#[]⟩])) 0) 133)) := fun u => by
      have h := run_make (P := Tryz.prog) u 28 133 i0 _ Tryz.underlying28 hi hz0 .i64 .i64 0 0 (by omega) (by omega) (by omega) (by omega)
      simpa [hz1] using h
    cases a with
    | none =>
      go_enter Tryz.func103, Tryz.ntmps103
      go_wp2
      go_ret
      exact ⟨_, rfl, Below.refl _ _, Or.inl ⟨_, _, rfl, rfl⟩⟩
    | some ad =>
      go_enter Tryz.func103, Tryz.ntmps103
      go_wp2
      go_loop [15] (fun i => i = .int .i64 0) (fun _ => 0)
      case atStart => rfl
      case round =>
        subst hrel
        go_wp2
        go_ret
        exact ⟨_, rfl, (Below.refl _ _).alloc (Nat.le_refl _) _, Or.inl ⟨_, _, rfl, rfl⟩⟩
  · obtain ⟨b, off, cap, rfl, hm, hbw, _, hc⟩ := hv.full hL
    clear hv
    have HM : Hid (Xl.length ≤ maxLen) := hm
    unfold maxLen at hm
    have hmk : ∀ u : World, (Instr.makeSlice 28 (.int .i64 (Xl.length : Int)) (.int .i64 (Xl.length : Int))).run Tryz.prog u = .ok (.slice (some ⟨u.heap.size, 0, none⟩) Xl.length Xl.length) (u.alloc (.cells (madeCells (Value.cells (.agg #[.int .i64 0, .string ⟨#[]⟩, .string ⟨#[]⟩, .slice none 0 0, .string ⟨#[]⟩, .string ⟨#[]⟩, .string ⟨#[]⟩])) (Xl.length * 7)) 133)) := fun u => by
      have h := run_make (P := Tryz.prog) u 28 133 i0 _ Tryz.underlying28 hi hz0 .i64 .i64 Xl.length Xl.length (by omega) (by omega) (by rw [hz2]; omega) (by omega)
      rw [hz1] at h
      simpa using h
    clear hi hz0 hz1 hz2
    go_enter Tryz.func103, Tryz.ntmps103
    go_wp2
    clear hmk hnil
    go_loopw [15] (fun i wr => ∃ (k : Nat) (c : Nat → Nat), i = .int .i64 k ∧ k ≤ Xl.length ∧ Below w.heap.size w wr ∧ GrsFillO wr w.heap.size Xl k c) (fun i _ => Xl.length - (intOf i).toNat)
    case atStart => exact ⟨0, _, rfl, by omega, (Below.refl _ _).alloc (Nat.le_refl _) _, GrsFillO.new w Xl _⟩
    case round =>
      obtain ⟨k, c, rfl, hk, hb, hf⟩ := hrel
      by_cases hlt : k < Xl.length
      · obtain ⟨hs, vv0, hc, hv0⟩ := hc k hlt
        have HB := hide hb
        have HF := hide hf
        have HSZ := hide hs
        obtain ⟨x0, y0, rfl⟩ := hv0.form
        obtain ⟨c0, c1, c2, c3, c4, c5, c6⟩ := hc.below hb hbw
        have HV0 := hide (hv0.below hb)
        clear hv0
        clear hc hb hf hs
        go_wp2_with fail
        generalize hWx : wr.alloc _ = Wx
        have hx : Below wr.heap.size wr Wx := by rw [← hWx]; exact one_al _ _
        clear hWx
        refine (copyGr_any 0 Xl[k] _ _ ((HV0.out.below hx).mono (Nat.zero_le _)) (HSM.out k hlt)).mono ?_
        rintro e w1 ⟨z0, rfl, hb1, hO0⟩
        obtain ⟨s0, t0, rfl⟩ := hO0.form
        have hck : c k ≤ Wx.heap.size := Nat.le_trans HF.out.2.2.1 hx.size
        have hf1 := (HF.out.below hx).below hb1
        have hB : Hid (Below w.heap.size w w1) := HB.out.trans ((hx.trans (hb1.mono hx.size)).mono HB.out.size)
        have HST := hide (hf1.step hlt HSZ.out w1.heap.size (Nat.le_trans hck hb1.size) (Nat.le_refl _) (Nat.le_trans hck hb1.size) (hO0.wide hck (Nat.le_refl _)))
        have hfr := hf1.free
        obtain ⟨o0, ho0⟩ := hf1.there (k * 7) (by omega)
        obtain ⟨o1, ho1⟩ := hf1.there (k * 7 + 1) (by omega)
        obtain ⟨o2, ho2⟩ := hf1.there (k * 7 + 2) (by omega)
        obtain ⟨o3, ho3⟩ := hf1.there (k * 7 + 3) (by omega)
        obtain ⟨o4, ho4⟩ := hf1.there (k * 7 + 4) (by omega)
        obtain ⟨o5, ho5⟩ := hf1.there (k * 7 + 5) (by omega)
        obtain ⟨o6, ho6⟩ := hf1.there (k * 7 + 6) (by omega)
        clear hf1 hb1 hx HF HB c0 c1 c2 c3 c4 c5 c6
        go_wp2
        go_roundw
        case rel =>
          exact ⟨k + 1, _, by go_num, by omega, (((((((hB.out.setCell (Nat.le_refl _) _).setCell (Nat.le_refl _) _).setCell (Nat.le_refl _) _).setCell (Nat.le_refl _) _).setCell (Nat.le_refl _) _).setCell (Nat.le_refl _) _).setCell (Nat.le_refl _) _), HST.out⟩
        case measure => simp [intOf]; omega
      · have e : k = Xl.length := by omega
        go_wp2
        go_ret
        exact ⟨_, rfl, hb, hf.own e hL HM.out⟩
end Go.Proofs.YtdeammfdkaomlaaGreat
namespace Go.Proofs.YtdeammfdkaomlaaGreat
open Go.RowKit Go.Deep

abbrev HeldLes (w : World) (b o : Nat) (x t : Le) (W : World) : Prop :=
  W.cell? ⟨b, o, none⟩ = some (.string x.tm) ∧ W.cell? ⟨b, o + 1, none⟩ = some (.string x.re) ∧ W.cell? ⟨b, o + 2, none⟩ = some (.int .i64 x.mo) ∧ W.cell? ⟨b, o + 3, none⟩ = some (.int .i64 x.fr) ∧ W.cell? ⟨w.heap.size, 0, none⟩ = some (.string t.tm) ∧ W.cell? ⟨w.heap.size, 1, none⟩ = some (.string t.re) ∧ W.cell? ⟨w.heap.size, 2, none⟩ = some (.int .i64 t.mo) ∧ W.cell? ⟨w.heap.size, 3, none⟩ = some (.int .i64 t.fr) ∧ Hid (Below w.heap.size w W ∧ b < W.heap.size ∧ w.heap.size < W.heap.size)
theorem HeldLes.on {w : World} {b o : Nat} {x t : Le} {W W' : World} (h : HeldLes w b o x t W) (hb : Below W.heap.size W W') : HeldLes w b o x t W' := by
  obtain ⟨y0, y1, y2, y3, y4, y5, y6, y7, hh⟩ := h
  have e1 : ∀ o, W'.cell? ⟨b, o, none⟩ = W.cell? ⟨b, o, none⟩ := fun o => hb.cell (p := ⟨b, o, none⟩) hh.out.2.1
  have e2 : ∀ o, W'.cell? ⟨w.heap.size, o, none⟩ = W.cell? ⟨w.heap.size, o, none⟩ := fun o => hb.cell (p := ⟨w.heap.size, o, none⟩) hh.out.2.2
  exact ⟨(e1 _).trans y0, (e1 _).trans y1, (e1 _).trans y2, (e1 _).trans y3, (e2 _).trans y4, (e2 _).trans y5, (e2 _).trans y6, (e2 _).trans y7, ⟨hh.out.1.trans (hb.mono hh.out.1.size), Nat.lt_of_lt_of_le hh.out.2.1 hb.size, Nat.lt_of_lt_of_le hh.out.2.2 hb.size⟩⟩

abbrev HeldPus (w : World) (b o : Nat) (x t : Pu) (W : World) : Prop :=
  W.cell? ⟨b, o, none⟩ = some (.string x.dr) ∧ W.cell? ⟨b, o + 1, none⟩ = some (.string x.tm) ∧ W.cell? ⟨b, o + 2, none⟩ = some (.string x.re) ∧ W.cell? ⟨b, o + 3, none⟩ = some (.int .i64 x.am) ∧ W.cell? ⟨b, o + 4, none⟩ = some (.int .i64 x.un) ∧ W.cell? ⟨w.heap.size, 0, none⟩ = some (.string t.dr) ∧ W.cell? ⟨w.heap.size, 1, none⟩ = some (.string t.tm) ∧ W.cell? ⟨w.heap.size, 2, none⟩ = some (.string t.re) ∧ W.cell? ⟨w.heap.size, 3, none⟩ = some (.int .i64 t.am) ∧ W.cell? ⟨w.heap.size, 4, none⟩ = some (.int .i64 t.un) ∧ Hid (Below w.heap.size w W ∧ b < W.heap.size ∧ w.heap.size < W.heap.size)
theorem HeldPus.on {w : World} {b o : Nat} {x t : Pu} {W W' : World} (h : HeldPus w b o x t W) (hb : Below W.heap.size W W') : HeldPus w b o x t W' := by
  obtain ⟨y0, y1, y2, y3, y4, y5, y6, y7, y8, y9, hh⟩ := h
  have e1 : ∀ o, W'.cell? ⟨b, o, none⟩ = W.cell? ⟨b, o, none⟩ := fun o => hb.cell (p := ⟨b, o, none⟩) hh.out.2.1
  have e2 : ∀ o, W'.cell? ⟨w.heap.size, o, none⟩ = W.cell? ⟨w.heap.size, o, none⟩ := fun o => hb.cell (p := ⟨w.heap.size, o, none⟩) hh.out.2.2
  exact ⟨(e1 _).trans y0, (e1 _).trans y1, (e1 _).trans y2, (e1 _).trans y3, (e1 _).trans y4, (e2 _).trans y5, (e2 _).trans y6, (e2 _).trans y7, (e2 _).trans y8, (e2 _).trans y9, ⟨hh.out.1.trans (hb.mono hh.out.1.size), Nat.lt_of_lt_of_le hh.out.2.1 hb.size, Nat.lt_of_lt_of_le hh.out.2.2 hb.size⟩⟩

end Go.Proofs.YtdeammfdkaomlaaGreat
namespace Go.Proofs.YtdeammfdkaomlaaGreat
open Go.RowKit Go.Deep

/-! a ledger gets what a purse has -/
def freeL (Ls : List Le) (p : Nat) (am : Int) : List Le := match Ls[p]? with
  | some x => Ls.set p { x with fr := x.fr + am }
  | none => Ls
theorem freeL_at {Ls : List Le} {p : Nat} (h : p < Ls.length) (am : Int) : freeL Ls p am = Ls.set p { Ls[p] with fr := Ls[p].fr + am } := by
  unfold freeL
  rw [List.getElem?_eq_getElem h]
theorem freeL_len (Ls : List Le) (p : Nat) (am : Int) : (freeL Ls p am).length = Ls.length := by
  unfold freeL
  split
  · rw [List.length_set]
  · rfl
theorem LesOwn.frz {l0 l1 : Nat} {W : World} {b off cap : Nat} {Ls : List Le} (h : LesOwn l0 l1 W (.slice (some ⟨b, off, none⟩) Ls.length cap) Ls) (hp : 0 < Ls.length) : ∀ i, W.frozen? ⟨b, i, none⟩ = false := by
  rcases h with ⟨_, _, _, h⟩ | ⟨b', off', cap', c, X, h1, h2, h3, h4, h5, h6⟩
  · rw [h] at hp; simp at hp
  · injection h1 with e1 _ e3
    injection e1 with e1
    injection e1 with e1 e2
    subst e1 e2 e3
    exact h6.frz
theorem LesOwn.free {l0 l1 : Nat} {W : World} {b off cap : Nat} {Ls : List Le} (h : LesOwn l0 l1 W (.slice (some ⟨b, off, none⟩) Ls.length cap) Ls) {p : Nat} (hp : p < Ls.length) (am : Int) :
    LesOwn l0 l1 (W.setCell ⟨b, off + p * 4 + 3, none⟩ (.int .i64 (Ls[p].fr + am))) (.slice (some ⟨b, off, none⟩) Ls.length cap) (freeL Ls p am) ∧ Touch l0 l1 W (W.setCell ⟨b, off + p * 4 + 3, none⟩ (.int .i64 (Ls[p].fr + am))) := by
  rcases h with ⟨_, _, _, h⟩ | ⟨b', off', cap', c, X, h1, h2, h3, h4, h5, h6⟩
  · rw [h] at hp; simp at hp
  · injection h1 with e1 _ e3
    injection e1 with e1
    injection e1 with e1 e2
    subst e1 e2 e3
    have hx := h6.row p hp
    rw [h5 p hp] at hx
    obtain ⟨hz, hc⟩ := hx
    have hbc : b < c p := Nat.lt_of_lt_of_le h6.bc (h6.le (Nat.zero_le _) (by omega))
    have hst : LeSt W b (off + p * 4) (c p) (c (p + 1)) W Ls[p] := ⟨Near.refl _ _ _ _ _ _, hbc, hc, h6.frz, h6.lt⟩
    have hs3 := hst.s3 (Ls[p].fr + am)
    have hrow := h6.near hp hs3.near (show LeOne b (off + p * 4) (c p) (c (p + 1)) _ { Ls[p] with fr := Ls[p].fr + am } from ⟨⟨hz.s0, hz.s1⟩, hs3.cells⟩)
    refine ⟨Or.inr ⟨b, off, cap, c, _, by rw [freeL_len], ?_, by rw [freeL_len]; exact h3, by rw [freeL_len]; exact h4, fun i hi => ?_, by rw [freeL_len]; exact hrow⟩, hs3.near.wide h6.lt (by have := h6.low; omega) (Nat.le_trans (h6.le (by omega) (Nat.le_refl _)) h6.top) ⟨h6.low, h6.bh⟩⟩
    · intro e
      have := congrArg List.length e
      rw [freeL_len] at this
      exact h2 (List.length_eq_zero_iff.1 (by simpa using this))
    · have hi' : i < Ls.length := by rw [freeL_len] at hi; exact hi
      have e : (freeL Ls p am)[i] = (Ls.set p { Ls[p] with fr := Ls[p].fr + am })[i]'(by rw [List.length_set]; exact hi') := by
        have := freeL_at hp am
        simp only [this]
      rw [e, List.getElem_set]
      by_cases ei : i = p
      · subst ei; simp
      · rw [if_neg ei, if_neg (fun h => ei h.symm)]; exact h5 i hi'

end Go.Proofs.YtdeammfdkaomlaaGreat
namespace Go.Proofs.YtdeammfdkaomlaaGreat
open Go.RowKit Go.Deep Go.Maps

/-- is it the object of a kind and a name? -/
def obIs (k n : ByteArray) (x : Ob) : Bool := x.kd.toList == k.toList && x.nm.toList == n.toList
end Go.Proofs.YtdeammfdkaomlaaGreat
namespace Go.Proofs.YtdeammfdkaomlaaGreat
open Go.RowKit Go.Deep Go.Maps

/-- a map that has the keys of objects -/
structure PlOk {H : Type} (Os : List Ob) (D : DataW H) : Prop where
  isMap : IsMap D
  has : ∀ a b : ByteArray, a.size ≤ maxLen → b.size ≤ maxLen → Maps.has D (accL a b) = Os.any (obIs a b)
theorem PlOk.start {H : Type} : PlOk [] (.map [] : DataW H) := ⟨⟨[], rfl⟩, fun _ _ _ _ => rfl⟩
end Go.Proofs.YtdeammfdkaomlaaGreat
namespace Go.Proofs.YtdeammfdkaomlaaGreat
open Go.RowKit Go.Deep

theorem Filled.below {wr w1 : World} {B : Nat} {L : List ByteArray} {k : Nat} (h : Filled wr B L k) (hb : Below wr.heap.size wr w1) : Filled w1 B L k := World.rowIs.of_block h (hb.block B (World.rowIs.lt h))

end Go.Proofs.YtdeammfdkaomlaaGreat
namespace Go.Proofs.YtdeammfdkaomlaaGreat
open Go.RowKit Go.Deep

theorem StrsAt.full' {w : World} {a : Option Addr} {n cap : Nat} {L : List ByteArray} (h : StrsAt w (.slice a n cap) L) (hL : 0 < L.length) :
    ∃ b off, a = some ⟨b, off, none⟩ ∧ b < w.heap.size ∧ ∀ i (h : i < L.length), w.cell? ⟨b, off + i, none⟩ = some (.string L[i]) := by
  rcases h with ⟨a', cap', h, rfl⟩ | ⟨b', off', cap', h1, h2, h3, h4, h5, h6⟩
  · simp at hL
  · injection h1 with e1 e2 e3
    exact ⟨b', off', e1, h4, h5⟩

end Go.Proofs.YtdeammfdkaomlaaGreat
namespace Go.Proofs.YtdeammfdkaomlaaGreat
open Go.RowKit Go.Deep

theorem OwnS.touch {base lo hi : Nat} {W W' : World} {v : Value} {R : List ByteArray} (h : OwnS base W v R) (ht : Touch lo hi W W') (hh : hi ≤ base) : OwnS base W' v R := by
  refine ⟨⟨h.row.1, ?_⟩, h.sz⟩
  rcases h.row.2 with hv | ⟨g, cap, cur, hv, h1, h2, h3⟩
  · exact Or.inl hv
  · have hg : g < W.heap.size := by
      rcases Nat.lt_or_ge g W.heap.size with h | h
      · exact h
      · rw [Array.getElem?_eq_none h] at h2; cases h2
    exact Or.inr ⟨g, cap, cur, hv, h1, by rw [ht.block g hg (Or.inr (by omega))]; exact h2, h3⟩
theorem MdsAt.sizes {lo : Nat} {w : World} {v : Value} {Ms : List Md} (h : MdsAt lo w v Ms) : ∀ m ∈ Ms, MdSize m := by
  intro m hm
  obtain ⟨i, hi, rfl⟩ := List.getElem_of_mem hm
  rcases h with ⟨_, _, _, h⟩ | ⟨b, off, cap, h1, h2, h3, h4, h5, h6, h7⟩
  · subst h; simp at hi
  · exact (h7 i hi).1
theorem StrsAt.sizes {w : World} {v : Value} {L : List ByteArray} (h : StrsAt w v L) : ∀ s ∈ L, s.size ≤ maxLen := by
  rcases h with ⟨_, _, _, h⟩ | ⟨b, off, cap, h1, h2, h3, h4, h5, h6⟩
  · subst h; intro s hs; simp at hs
  · exact h6
end Go.Proofs.YtdeammfdkaomlaaGreat
namespace Go.Proofs.YtdeammfdkaomlaaGreat
open Go.RowKit Go.Deep

/-- WHAT SHAPING COMES TO -/
def ShapeTo (Ss : List Sh) (Ms : List Md) (kind : ByteArray) (V F : List ByteArray) : Prop :=
  (∃ x, mendsB Ss Ms = true ∧ shOf Ss kind = some x ∧ x.fields.length = V.length ∧ FixM x Ms (fillV V x.fields) F) ∨
  ((mendsB Ss Ms = false ∨ ∀ x, shOf Ss kind = some x → x.fields.length ≠ V.length) ∧ F = V)
end Go.Proofs.YtdeammfdkaomlaaGreat

namespace Go.Proofs.YtdeammfdkaomlaaGreat
open Go.RowKit Go.Deep

end Go.Proofs.YtdeammfdkaomlaaGreat

namespace Go.Proofs.YtdeammfdkaomlaaGreat
open Go.RowKit Go.Deep

end Go.Proofs.YtdeammfdkaomlaaGreat

namespace Go.Proofs.YtdeammfdkaomlaaGreat
open Go.RowKit Go.Deep

/-- what a round of mending reads is as it was -/
abbrev HeldM (wr : World) (β : Nat) (cs : Array Value) (rb ro : Nat) (s : ByteArray) (vb : Nat) (W : World) : Prop :=
  (∀ i, W.cell? ⟨β, i, none⟩ = cs[i]?) ∧ W.cell? ⟨rb, ro, none⟩ = some (.string s) ∧ Hid (Below vb wr W ∧ β < W.heap.size ∧ rb < W.heap.size ∧ vb ≠ β ∧ vb ≠ rb)
theorem HeldM.start {wr : World} {β : Nat} {cs : Array Value} {rb ro : Nat} {s : ByteArray} {vb : Nat} (h : Hid (Box wr β cs)) (h1 : Hid (wr.cell? ⟨rb, ro, none⟩ = some (.string s))) (hr : rb < wr.heap.size) (e1 : Hid (vb ≠ β)) (e2 : Hid (vb ≠ rb)) : HeldM wr β cs rb ro s vb wr.drew :=
  ⟨h.out.cell, h1.out, (Below.refl _ _).drew, h.out.lt, hr, e1.out, e2.out⟩
theorem HeldM.on {wr W W' : World} {β : Nat} {cs : Array Value} {rb ro : Nat} {s : ByteArray} {vb : Nat} (h : HeldM wr β cs rb ro s vb W) (hb : Below W.heap.size W W') (hv : vb ≤ W.heap.size) : HeldM wr β cs rb ro s vb W' := by
  obtain ⟨h1, h2, h5, h6, h7, h8, h9⟩ := h
  exact ⟨fun i => (hb.cell (p := ⟨β, i, none⟩) h6).trans (h1 i), (hb.cell (p := ⟨rb, ro, none⟩) h7).trans h2, h5.trans (hb.mono hv), Nat.lt_of_lt_of_le h6 hb.size, Nat.lt_of_lt_of_le h7 hb.size, h8, h9⟩
theorem HeldM.set {wr W : World} {β : Nat} {cs : Array Value} {rb ro : Nat} {s : ByteArray} {vb vo : Nat} (h : HeldM wr β cs rb ro s vb W) (u : Value) : HeldM wr β cs rb ro s vb (W.setCell ⟨vb, vo, none⟩ u) := by
  obtain ⟨h1, h2, h5, h6, h7, h8, h9⟩ := h
  exact ⟨fun i => (World.cell?_setCell_far _ _ _ _ h8).trans (h1 i), (World.cell?_setCell_far _ _ _ _ h9).trans h2, h5.setCell (Nat.le_refl _) _, by simpa [World.setCell] using h6, by simpa [World.setCell] using h7, h8, h9⟩

end Go.Proofs.YtdeammfdkaomlaaGreat

namespace Go.Proofs.YtdeammfdkaomlaaGreat
open Go.RowKit Go.Deep

end Go.Proofs.YtdeammfdkaomlaaGreat

namespace Go.Proofs.YtdeammfdkaomlaaGreat
open Go.RowKit Go.Deep

theorem MendTo.len {Ss : List Sh} {Ms : List Md} {kind : ByteArray} {V F : List ByteArray} (h : MendTo Ss Ms kind V F) : F.length = V.length := by
  rcases h with ⟨x, _, _, _, h⟩ | ⟨_, h⟩
  · exact h.len
  · rw [h]
theorem ShapeTo.len {Ss : List Sh} {Ms : List Md} {kind : ByteArray} {V F : List ByteArray} (h : ShapeTo Ss Ms kind V F) : F.length = V.length := by
  rcases h with ⟨x, _, _, h2, h⟩ | ⟨_, h⟩
  · rw [h.len, fillV_len h2]
  · rw [h]

end Go.Proofs.YtdeammfdkaomlaaGreat

namespace Go.Proofs.YtdeammfdkaomlaaGreat
open Go.RowKit Go.Deep
theorem Held.mds {w W : World} {cs : Array Value} (h : Held w cs W) {lo : Nat} {v : Value} {Ms : List Md} (hs : MdsAt lo w v Ms) : MdsAt lo W v Ms := hs.below h.2.2.out.1
end Go.Proofs.YtdeammfdkaomlaaGreat
namespace Go.Proofs.YtdeammfdkaomlaaGreat
open Go.RowKit Go.Deep

set_option maxRecDepth 20000 in
set_option maxHeartbeats 8000000 in
theorem heldTms_any (lo hi : Nat) (v : Value) (Xl : List Tm) (k : Int) (w : World) (hv : TmsOwn lo hi w v (mkTms k Xl)) (hn : TmsSmall Xl) (h0 : 0 ≤ k) (hk : k ≤ 2000000000000000000) :
    Calls Tryz.prog 113 #[v, .int .i64 k] w fun e w' => e = .returned (.int .i64 (k + (posTm Xl Xl.length : Int))) ∧ Below w.heap.size w w' := by
  have HA := hide hv.at
  have HN := hide hn
  have hlen := hn.1
  obtain ⟨a, cap, hv'⟩ := hv.form
  rw [mkTms_len] at hv'
  subst hv'
  clear hv hn
  go_enter Tryz.func113, Tryz.ntmps113
  go_wp2
  go_loopw [5, 1] (fun i q wr => ∃ j : Nat, i = .int .i64 j ∧ q = .int .i64 (k + (posTm Xl j : Int)) ∧ j ≤ Xl.length ∧ Below w.heap.size w wr) (fun i _ _ => Xl.length - (intOf i).toNat)
  case atStart => exact ⟨0, rfl, by simp [posTm], by omega, Below.refl _ _⟩
  case round =>
    obtain ⟨j, rfl, rfl, hj, hb⟩ := hrel
    have HB0 := hide hb
    clear hb
    by_cases hlt : j < Xl.length
    · obtain ⟨b, off, rfl, hbw, hc⟩ := HA.out.full' (by rw [mkTms_len]; omega)
      have hcj := hc j (by rw [mkTms_len]; omega)
      rw [mkTms_get _ _ _ _ hlt] at hcj
      have hpos := posTm_le HN.out (i := j) (by omega)
      have HP := hide (posTm_succ hlt)
      obtain ⟨x, hx⟩ : ∃ x, x = Xl[j] := ⟨_, rfl⟩
      rw [← hx] at hcj
      have HXX := hide hx
      obtain ⟨K, hK⟩ : ∃ K, K = k + (posTm Xl j : Int) := ⟨_, rfl⟩
      rw [← hK] at hcj
      rw [← hK]
      have hK0 : 0 ≤ K := by omega
      have hK1 : K ≤ 2500000000000000000 := by omega
      have HK := hide hK
      obtain ⟨_, hcl⟩ := hcj
      have HC := hide hcl
      clear hc hcl hx hK hpos
      have d0 : wr.cell? ⟨b, off + j * 2, none⟩ = some (.string (mtB (K))) := (HC.out.below HB0.out hbw).c0
      have d1 : wr.cell? ⟨b, off + j * 2 + 1, none⟩ = some (.string (mtB (K + 1))) := (HC.out.below HB0.out hbw).c1
      have x0 : ∀ X : In (Upo wr), X.w.cell? ⟨b, off + j * 2, none⟩ = some (.string (mtB (K))) := fun X => Upo.cell X d0
      have xn : Nonempty (In (Upo wr)) := ⟨⟨wr, Below.refl _ _⟩⟩
      have xs := fun (X : In (Upo wr)) => in_self X
      go_wp2
      clear d0 d1
      refine wp_region_class (Upo wr) (by kernel_rfl) (by kernel_rfl) ((Below.refl _ _).drew) ?_
      repeat (go_big_quiet_step (first | (go_at_call 84; rename_i X; exact (markText_any _ _ (by omega)).mono fun _ _ h => ⟨h.1, Upo.next X h.2⟩)))
      refine wpQuiet_nil ?_
      intro w1 hw
      obtain ⟨Y, hY⟩ := hw
      have HB1 : Hid (Below w.heap.size w w1) := HB0.out.trans (Below.mono (show Below wr.heap.size wr w1 by rw [hY]; exact Y.h) HB0.out.size)
      clear hY Y x0 xs xn HB0
      have d0 : w1.cell? ⟨b, off + j * 2, none⟩ = some (.string (mtB (K))) := (HC.out.below HB1.out hbw).c0
      have d1 : w1.cell? ⟨b, off + j * 2 + 1, none⟩ = some (.string (mtB (K + 1))) := (HC.out.below HB1.out hbw).c1
      have x0 : ∀ X : In (Upo w1), X.w.cell? ⟨b, off + j * 2 + 1, none⟩ = some (.string (mtB (K + 1))) := fun X => Upo.cell X d1
      have xn : Nonempty (In (Upo w1)) := ⟨⟨w1, Below.refl _ _⟩⟩
      have xs := fun (X : In (Upo w1)) => in_self X
      go_wp2
      clear d0 d1
      refine wp_region_class (Upo w1) (by kernel_rfl) (by kernel_rfl) ((Below.refl _ _).drew) ?_
      repeat (go_big_quiet_step (first | (go_at_call 84; rename_i X; exact (markText_any _ _ (by omega)).mono fun _ _ h => ⟨h.1, Upo.next X h.2⟩)))
      refine wpQuiet_nil ?_
      intro w2 hw
      obtain ⟨Y, hY⟩ := hw
      have HB2 : Hid (Below w.heap.size w w2) := HB1.out.trans (Below.mono (show Below w1.heap.size w1 w2 by rw [hY]; exact Y.h) HB1.out.size)
      clear hY Y x0 xs xn HB1
      have d0 : w2.cell? ⟨b, off + j * 2, none⟩ = some (.string (mtB (K))) := (HC.out.below HB2.out hbw).c0
      have d1 : w2.cell? ⟨b, off + j * 2 + 1, none⟩ = some (.string (mtB (K + 1))) := (HC.out.below HB2.out hbw).c1
      go_wp2
      clear d0 d1
      have HW : Hid (wdTm Xl[j] = 2) := by unfold Hid; rw [← HXX.out]; rfl
      have HQ : Hid ((K + 1 + 1 : Int) = k + (posTm Xl (j + 1) : Int)) := by
        have h1 := HP.out
        have h2 := HW.out
        have h3 := HK.out
        unfold Hid
        omega
      go_roundw
      case rel => exact ⟨j + 1, by go_num, congrArg (Value.int .i64) HQ.out, by omega, HB2.out⟩
      case measure => simp [intOf]; omega
    · have e : j = Xl.length := by omega
      subst e
      go_wp2
      go_ret
      exact ⟨rfl, HB0.out⟩
end Go.Proofs.YtdeammfdkaomlaaGreat
namespace Go.Proofs.YtdeammfdkaomlaaGreat
open Go.ChangeShapes Go.WideShapes Go.ChangeAt Go.RowKit Go.Deep

theorem Tryz.cells124 : Tryz.prog.cellsOf 124 = 2 := by kernel_rfl
section
variable {H : Type} {enc : TypeId × Value → H} {W : World}
set_option maxRecDepth 100000 in
theorem open_tm {fuel : Nat} {cs : List Value} {x : DataW H × List MemPlace} (h : DataW.trod enc Tryz.prog W 0 (fun _ => true) true fuel 124 cs = some x) :
    ∃ (m : Tm), cs = [.string m.nm, .string m.ov] ∧ TmSize m := by
  obtain ⟨xs, n, _, _, hl, hlen, hfld⟩ := DataW.trod_struct Tryz.underlying124 h
  obtain ⟨c0, c1, rfl⟩ := list2 (hl.trans Tryz.cells124)
  simp only [Array.size, List.length_cons, List.length_nil] at hlen
  have g0 : DataW.trod enc Tryz.prog W 0 (fun _ => true) true n 9 ((([c0, c1] : List Value).drop 0).take (Tryz.prog.cellsOf 9)) = xs[0]? := hfld 0 _ rfl
  have g1 : DataW.trod enc Tryz.prog W 0 (fun _ => true) true n 9 ((([c0, c1] : List Value).drop 1).take (Tryz.prog.cellsOf 9)) = xs[1]? := hfld 1 _ rfl
  simp only [Tryz.cells9, List.drop_succ_cons, List.drop_zero, List.take_succ_cons, List.take_zero] at g0 g1
  rw [List.getElem?_eq_getElem (by omega)] at g0 g1
  obtain ⟨k, e0, _, s0⟩ := DataW.trod_string Tryz.underlying9 g0
  obtain ⟨f, e1, _, s1⟩ := DataW.trod_string Tryz.underlying9 g1
  simp only [List.cons.injEq, and_true] at e0 e1
  subst e0 e1
  exact ⟨⟨k, f⟩, rfl, ⟨s0, s1⟩⟩

set_option maxRecDepth 100000 in
theorem open_tms {fuel : Nat} {c : Value} {x : DataW H × List MemPlace} (h : DataW.trod enc Tryz.prog W 0 (fun _ => true) true fuel 22 [c] = some x) : ∃ Ts, TmsAt 0 W c Ts := by
  rcases open_slice Tryz.underlying22 h with ⟨hcs, _⟩ | ⟨a, len, cap, m, n, D, Pl, hcs, _, hl, hm, hmm, _, hx⟩
  · simp only [List.cons.injEq, and_true] at hcs
    exact ⟨[], Or.inl ⟨_, _, hcs, rfl⟩⟩
  · simp only [List.cons.injEq, and_true] at hcs
    simp only [if_true] at hmm
    subst hmm
    rw [Tryz.cells124] at hx
    by_cases h0 : len = 0
    · subst h0
      exact ⟨[], Or.inl ⟨_, _, hcs, rfl⟩⟩
    · obtain ⟨Ts, hF, hall⟩ := choose_list (p := fun i (m : Tm) => TmSize m ∧ W.cells? 0 (a.add (i * 2)) 2 = some [.string m.nm, .string m.ov]) len (fun i hi => by
        obtain ⟨cs', h1, h2⟩ := hx i (by omega)
        obtain ⟨md, e, hz⟩ := open_tm h2
        rw [e] at h1
        exact ⟨md, hz, h1⟩)
      obtain ⟨b, off, spot⟩ := a
      have hspot : spot = none := by
        obtain ⟨_, h1⟩ := hall 0 (by omega)
        have := (World.cells?_some h1).2.2 0 (by omega)
        rw [Nat.zero_mul] at this
        have e0 : ((⟨b, off, spot⟩ : Addr).add 0).add 0 = ⟨b, off, spot⟩ := by simp [Addr.add]
        rw [e0] at this
        simpa using World.cell?_spot (by simpa using this)
      subst hspot
      have hcell : ∀ i (hi : i < Ts.length), W.cells? 0 ((⟨b, off, none⟩ : Addr).add (i * 2)) 2 = some [.string Ts[i].nm, .string Ts[i].ov] → TmCells W b (off + i * 2) Ts[i] := fun i hi h1 => by
        obtain ⟨_, _, hc⟩ := World.cells?_some h1
        rw [add_plain] at hc
        have q := fun j (hj : j < 2) => (add_plain b (off + i * 2) j) ▸ hc j hj
        exact ⟨by simpa using q 0 (by omega), by simpa using q 1 (by omega)⟩
      have hbw : b < W.heap.size := by
        obtain ⟨_, h1⟩ := hall 0 (by omega)
        exact World.block_lt_of_cell? W _ (hcell 0 (by omega) h1).c0
      refine ⟨Ts, Or.inr ⟨b, off, m, by rw [hcs, hF], ?_, by omega, hbw, Nat.zero_le _, by omega, fun i hi => ?_⟩⟩
      · intro e; rw [e] at hF; simp at hF; omega
      · obtain ⟨hz, h1⟩ := hall i hi
        exact ⟨hz, hcell i hi h1⟩
end
end Go.Proofs.YtdeammfdkaomlaaGreat
namespace Go.Proofs.YtdeammfdkaomlaaGreat
open Go.RowKit Go.Deep

structure RuCells (w : World) (b o : Nat) (r : Ru) (vv : Value) : Prop where
  c0 : w.cell? ⟨b, o, none⟩ = some vv
  c1 : w.cell? ⟨b, o + 1, none⟩ = some (.string r.kd)
  c2 : w.cell? ⟨b, o + 2, none⟩ = some (.string r.tm)
  c3 : w.cell? ⟨b, o + 3, none⟩ = some (.string r.pf)
theorem RuCells.below {w w' : World} {b o : Nat} {r : Ru} {vv : Value} (h : RuCells w b o r vv) (hb : Below w.heap.size w w') (hlt : b < w.heap.size) : RuCells w' b o r vv := by
  have e : ∀ o, w'.cell? ⟨b, o, none⟩ = w.cell? ⟨b, o, none⟩ := fun o => hb.cell (p := ⟨b, o, none⟩) hlt
  exact ⟨by rw [e]; exact h.c0, by rw [e]; exact h.c1, by rw [e]; exact h.c2, by rw [e]; exact h.c3⟩
/-- A []GateRule THAT HOLDS Rs; its cells lie from block lo on. -/
def RusAt (lo : Nat) (w : World) (v : Value) (Rs : List Ru) : Prop :=
  (∃ (a : Option Addr) (cap : Nat), v = .slice a 0 cap ∧ Rs = []) ∨
  ∃ (b off cap : Nat), v = .slice (some ⟨b, off, none⟩) Rs.length cap ∧ Rs ≠ [] ∧ Rs.length ≤ maxLen ∧ b < w.heap.size ∧ lo ≤ b ∧ Rs.length ≤ cap ∧
    ∀ i (h : i < Rs.length), RuSize Rs[i] ∧ ∃ vv, RuCells w b (off + i * 4) Rs[i] vv ∧ IntsIn lo w vv Rs[i].vb
theorem RusAt.below {lo : Nat} {w w' : World} {v : Value} {Rs : List Ru} (h : RusAt lo w v Rs) (hb : Below w.heap.size w w') : RusAt lo w' v Rs := by
  rcases h with h | ⟨b, off, cap, h1, h2, h3, h4, h5, h6, h7⟩
  · exact Or.inl h
  · refine Or.inr ⟨b, off, cap, h1, h2, h3, Nat.lt_of_lt_of_le h4 hb.size, h5, h6, fun i hi => ?_⟩
    obtain ⟨hs, vv, hc, hv⟩ := h7 i hi
    exact ⟨hs, vv, hc.below hb h4, hv.below hb⟩
theorem RusAt.mono {lo lo' : Nat} {w : World} {v : Value} {Rs : List Ru} (h : RusAt lo w v Rs) (hl : lo' ≤ lo) : RusAt lo' w v Rs := by
  rcases h with h | ⟨b, off, cap, h1, h2, h3, h4, h5, h6, h7⟩
  · exact Or.inl h
  · refine Or.inr ⟨b, off, cap, h1, h2, h3, h4, Nat.le_trans hl h5, h6, fun i hi => ?_⟩
    obtain ⟨hs, vv, hc, hv⟩ := h7 i hi
    exact ⟨hs, vv, hc, hv.mono hl⟩
theorem RusAt.form {lo : Nat} {w : World} {v : Value} {Rs : List Ru} (h : RusAt lo w v Rs) : ∃ a cap, v = .slice a Rs.length cap := by
  rcases h with ⟨a, cap, h, rfl⟩ | ⟨b, off, cap, h, _⟩
  · exact ⟨a, cap, h⟩
  · exact ⟨_, cap, h⟩
theorem RusAt.max {lo : Nat} {w : World} {v : Value} {Rs : List Ru} (h : RusAt lo w v Rs) : Rs.length ≤ maxLen := by
  rcases h with ⟨a, cap, h, rfl⟩ | ⟨b, off, cap, h, _, h3, _⟩
  · exact Nat.zero_le _
  · exact h3
theorem RusAt.full {lo : Nat} {w : World} {v : Value} {Rs : List Ru} (h : RusAt lo w v Rs) (hne : Rs ≠ []) : ∃ (b off cap : Nat), v = .slice (some ⟨b, off, none⟩) Rs.length cap ∧ Rs.length ≤ maxLen ∧ b < w.heap.size ∧ Rs.length ≤ cap ∧
    ∀ i (h : i < Rs.length), RuSize Rs[i] ∧ ∃ vv, RuCells w b (off + i * 4) Rs[i] vv ∧ IntsIn lo w vv Rs[i].vb := by
  rcases h with ⟨_, _, _, h⟩ | ⟨b, off, cap, h1, _, h3, h4, _, h6, h7⟩
  · exact absurd h hne
  · exact ⟨b, off, cap, h1, h3, h4, h6, h7⟩
theorem RusAt.full' {lo : Nat} {w : World} {a : Option Addr} {n cap : Nat} {Rs : List Ru} (h : RusAt lo w (.slice a n cap) Rs) (hL : 0 < Rs.length) :
    ∃ b off, a = some ⟨b, off, none⟩ ∧ b < w.heap.size ∧ ∀ i (h : i < Rs.length), RuSize Rs[i] ∧ ∃ vv, RuCells w b (off + i * 4) Rs[i] vv ∧ IntsIn lo w vv Rs[i].vb := by
  rcases h with ⟨a', cap', h, rfl⟩ | ⟨b', off', cap', h1, h2, h3, h4, h5, h6, h7⟩
  · simp at hL
  · injection h1 with e1 e2 e3
    exact ⟨b', off', e1, h4, h7⟩
def RusFill (wr : World) (B : Nat) (Rs : List Ru) (k : Nat) : Prop :=
  ∃ f, wr.rowIs B 131 (Rs.length * 4) f ∧ ∀ i (h : i < Rs.length), i < k → RuSize Rs[i] ∧ ∃ vv, f (i * 4) = vv ∧ f (i * 4 + 1) = .string Rs[i].kd ∧ f (i * 4 + 2) = .string Rs[i].tm ∧ f (i * 4 + 3) = .string Rs[i].pf ∧ IntsIn (B + 1) wr vv Rs[i].vb
theorem RusFill.below {wr w1 : World} {B : Nat} {Rs : List Ru} {k : Nat} (h : RusFill wr B Rs k) (hb : Below wr.heap.size wr w1) : RusFill w1 B Rs k := by
  obtain ⟨f, hr, hall⟩ := h
  refine ⟨f, hr.of_block (hb.block B hr.lt), fun i hi hik => ?_⟩
  obtain ⟨hz, vv, h0, h1, h2, h3, hv⟩ := hall i hi hik
  exact ⟨hz, vv, h0, h1, h2, h3, hv.below hb⟩
theorem RusFill.free {wr : World} {B : Nat} {Rs : List Ru} {k : Nat} (h : RusFill wr B Rs k) (i : Nat) : wr.frozen? ⟨B, i, none⟩ = false := by
  obtain ⟨f, hr, _⟩ := h
  exact hr.frozen i
theorem RusFill.there {wr : World} {B : Nat} {Rs : List Ru} {k : Nat} (h : RusFill wr B Rs k) (i : Nat) (hi : i < Rs.length * 4) : ∃ v, wr.cell? ⟨B, i, none⟩ = some v := by
  obtain ⟨f, hr, _⟩ := h
  exact ⟨_, hr.cell hi⟩
theorem RusFill.step {w1 : World} {B : Nat} {Rs : List Ru} {k : Nat} {vv : Value} (h : RusFill w1 B Rs k) (hk : k < Rs.length) (hz : RuSize Rs[k]) (hv : IntsIn (B + 1) w1 vv Rs[k].vb) :
    RusFill ((((w1.setCell ⟨B, k * 4, none⟩ vv).setCell ⟨B, k * 4 + 1, none⟩ (.string Rs[k].kd)).setCell ⟨B, k * 4 + 2, none⟩ (.string Rs[k].tm)).setCell ⟨B, k * 4 + 3, none⟩ (.string Rs[k].pf)) B Rs (k + 1) := by
  obtain ⟨f, hr, hall⟩ := h
  refine ⟨_, ((((hr.set _ _).set _ _).set _ _).set _ _), fun i hi hik => ?_⟩
  by_cases e : i = k
  · subst e
    refine ⟨hz, vv, by simp, by simp, by simp, by simp, ?_⟩
    repeat (refine IntsIn.setCell ?_ (by simp only []; omega) _)
    exact hv
  · obtain ⟨hz', vv', h0, h1, h2, h3, hv'⟩ := hall i hi (by omega)
    refine ⟨hz', vv', ?_, ?_, ?_, ?_, ?_⟩
    · rw [if_neg (by omega), if_neg (by omega), if_neg (by omega), if_neg (by omega)]; exact h0
    · rw [if_neg (by omega), if_neg (by omega), if_neg (by omega), if_neg (by omega)]; exact h1
    · rw [if_neg (by omega), if_neg (by omega), if_neg (by omega), if_neg (by omega)]; exact h2
    · rw [if_neg (by omega), if_neg (by omega), if_neg (by omega), if_neg (by omega)]; exact h3
    · repeat (refine IntsIn.setCell ?_ (by simp only []; omega) _)
      exact hv'
theorem RusFill.done {wr : World} {B : Nat} {Rs : List Ru} {k : Nat} (h : RusFill wr B Rs k) (hk : Rs.length ≤ k) (hne : Rs ≠ []) (hm : Rs.length ≤ maxLen) : RusAt B wr (.slice (some ⟨B, 0, none⟩) Rs.length Rs.length) Rs := by
  obtain ⟨f, hr, hall⟩ := h
  refine Or.inr ⟨B, 0, Rs.length, rfl, hne, hm, hr.lt, Nat.le_refl _, Nat.le_refl _, fun i hi => ?_⟩
  obtain ⟨hz, vv, h0, h1, h2, h3, hv⟩ := hall i hi (by omega)
  rw [Nat.zero_add]
  exact ⟨hz, vv, ⟨by rw [hr.cell (by omega), h0], by rw [hr.cell (by omega), h1], by rw [hr.cell (by omega), h2], by rw [hr.cell (by omega), h3]⟩, hv.mono (by omega)⟩
theorem RusFill.new (w : World) (Rs : List Ru) (z : Array Value) : RusFill (w.alloc (.cells (madeCells z (Rs.length * 4)) 131)) w.heap.size Rs 0 := by
  refine ⟨fun i => (madeCells z (Rs.length * 4)).getD i default, ?_, fun i _ h => by omega⟩
  have := World.rowIs_alloc w (madeCells z (Rs.length * 4)) 131 (fun i => (madeCells z (Rs.length * 4)).getD i default) (fun i hi => by simp [Array.getD, hi])
  rwa [size_madeCells] at this

end Go.Proofs.YtdeammfdkaomlaaGreat
namespace Go.Proofs.YtdeammfdkaomlaaGreat
open Go.ChangeShapes Go.WideShapes Go.ChangeAt Go.RowKit Go.Deep

theorem Tryz.cells22 : Tryz.prog.cellsOf 22 = 1 := by kernel_rfl
end Go.Proofs.YtdeammfdkaomlaaGreat
