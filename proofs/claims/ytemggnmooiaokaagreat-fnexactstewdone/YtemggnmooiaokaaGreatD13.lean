import Derived.Test.YtemggnmooiaokaaGreatD08
import Derived.Test.YtemggnmooiaokaaGreatD10
import Derived.Test.YtemggnmooiaokaaGreatD11
import Derived.Test.YtemggnmooiaokaaGreatD12
namespace Go.Proofs.YtemggnmooiaokaaGreat
open Go.RowKit Go.Deep

theorem Box.touch {w w' : World} {β lo hi : Nat} {cs : Array Value} (h : Box w β cs) (ht : Touch lo hi w w') (hb : β < lo ∨ hi ≤ β) : Box w' β cs :=
  ⟨Nat.lt_of_lt_of_le h.lt ht.size, fun i => (ht.cell (p := ⟨β, i, none⟩) h.lt hb).trans (h.cell i), fun i => (ht.frozen (p := ⟨β, i, none⟩) h.lt hb).trans (h.free i)⟩
/-- the parts of a book of one's own lie apart -/
structure ApartS (lo hi s0 s1 c0 c1 b0 b1 : Nat) : Prop where
  s : lo ≤ s0 ∧ s1 ≤ hi
  c : lo ≤ c0 ∧ c1 ≤ hi
  b : lo ≤ b0 ∧ b1 ≤ hi
  sc : s1 ≤ c0 ∨ c1 ≤ s0
  sb : s1 ≤ b0 ∨ b1 ≤ s0
  cb : c1 ≤ b0 ∨ b1 ≤ c0
/-- a book of one's own -/
def SbOwn (lo hi : Nat) (w : World) (sv cv bv : Value) (B : Sb) : Prop :=
  ∃ s0 s1 c0 c1 b0 b1 : Nat, ApartS lo hi s0 s1 c0 c1 b0 b1 ∧ SvsOwn s0 s1 w sv B.ss ∧ CpsOwn c0 c1 w cv B.cs ∧ BesOwn b0 b1 w bv B.bs
theorem SbOwn.at {lo hi : Nat} {w : World} {sv cv bv : Value} {B : Sb} (h : SbOwn lo hi w sv cv bv B) : SbAt lo w sv cv bv B := by
  obtain ⟨_, _, _, _, _, _, ha, h1, h2, h3⟩ := h
  exact ⟨h1.at.mono ha.s.1, h2.at.mono ha.c.1, h3.at.mono ha.b.1⟩
theorem SbOwn.below {lo hi : Nat} {w w' : World} {sv cv bv : Value} {B : Sb} (h : SbOwn lo hi w sv cv bv B) (hb : Below w.heap.size w w') : SbOwn lo hi w' sv cv bv B := by
  obtain ⟨s0, s1, c0, c1, b0, b1, ha, h1, h2, h3⟩ := h
  exact ⟨s0, s1, c0, c1, b0, b1, ha, h1.below hb, h2.below hb, h3.below hb⟩
theorem SbOwn.touch {lo hi lo' hi' : Nat} {w w' : World} {sv cv bv : Value} {B : Sb} (h : SbOwn lo hi w sv cv bv B) (ht : Touch lo' hi' w w') (ho : hi ≤ lo' ∨ hi' ≤ lo) : SbOwn lo hi w' sv cv bv B := by
  obtain ⟨s0, s1, c0, c1, b0, b1, ha, h1, h2, h3⟩ := h
  have := ha.s
  have := ha.c
  have := ha.b
  exact ⟨s0, s1, c0, c1, b0, b1, ha, h1.touch ht (by omega), h2.touch ht (by omega), h3.touch ht (by omega)⟩
theorem SbOwn.wide {lo hi lo' hi' : Nat} {w : World} {sv cv bv : Value} {B : Sb} (h : SbOwn lo hi w sv cv bv B) (h1 : lo' ≤ lo) (h2 : hi ≤ hi') : SbOwn lo' hi' w sv cv bv B := by
  obtain ⟨s0, s1, c0, c1, b0, b1, ⟨q0, q1, q2, r0, r1, r2⟩, hh⟩ := h
  exact ⟨s0, s1, c0, c1, b0, b1, ⟨by omega, by omega, by omega, r0, r1, r2⟩, hh⟩
def mkSb (k : Int) (B : Sb) : Sb := ⟨B.now, mkSvs k B.ss, mkCps (k + (posSv B.ss B.ss.length : Int)) B.cs, mkBes (k + (posSv B.ss B.ss.length : Int) + (posCp B.cs B.cs.length : Int)) B.bs⟩
def endSb (k : Int) (B : Sb) : Int := k + (posSv B.ss B.ss.length : Int) + (posCp B.cs B.cs.length : Int) + (posBe B.bs B.bs.length : Int)
theorem posSb_le {B : Sb} (hn : SbSmall B) : posSv B.ss B.ss.length ≤ 4000000000000 ∧ posCp B.cs B.cs.length ≤ 4000000000000 ∧ posBe B.bs B.bs.length ≤ 4000000000000 := by
  obtain ⟨h1, h2, h3⟩ := hn
  have := posSv_le h1 (i := B.ss.length) (Nat.le_refl _)
  have := posCp_le h2 (i := B.cs.length) (Nat.le_refl _)
  have := posBe_le h3 (i := B.bs.length) (Nat.le_refl _)
  have := h1.1
  have := h2.1
  have := h3.1
  omega

section
variable (lo hi : Nat) (sv cv bv : Value) (B : Sb) (w : World)

set_option maxRecDepth 20000 in
set_option maxHeartbeats 4000000 in
theorem markSb_any (k : Int) (h : SbOwn lo hi w sv cv bv B) (hn : SbSmall B) (h0 : 0 ≤ k) (hk : k ≤ 1900000000000000000) (hhi : hi ≤ w.heap.size) :
    Calls Tryz.prog 13 #[.agg #[.int .i64 B.now, sv, cv, bv], .int .i64 k] w fun e w' => e = .returned (.int .i64 (endSb k B)) ∧ Touch lo hi w w' ∧ SbOwn lo hi w' sv cv bv (mkSb k B) := by
  obtain ⟨s0, s1, c0, c1, b0, b1, ha, h1, h2, h3⟩ := h
  obtain ⟨z0, z1, z2⟩ := posSb_le hn
  have HN := hide hn
  have HP := hide ha
  obtain ⟨⟨y0, y1⟩, ⟨y2, y3⟩, ⟨y4, y5⟩, ysc, ysb, ycb⟩ := ha
  have H1 := hide h1
  have H2 := hide h2
  have H3 := hide h3
  obtain ⟨a0, k0, rfl⟩ := h1.form
  obtain ⟨a1, k1, rfl⟩ := h2.form
  obtain ⟨a2, k2, rfl⟩ := h3.form
  clear h1 h2 h3 hn
  go_enter Tryz.func13, Tryz.ntmps13
  go_wp2_with fail
  generalize hWa : w.alloc _ = Wa
  have hb : Below w.heap.size w Wa := by rw [← hWa]; exact one_al w _
  have HX0 : Hid (Box Wa w.heap.size #[.int .i64 B.now, .slice a0 B.ss.length k0, .slice a1 B.cs.length k1, .slice a2 B.bs.length k2]) := by rw [← hWa]; exact Box.new _ _ _ _ rfl
  have HT0 : Hid (Touch lo hi w Wa) := Touch.below hb
  replace H1 := hide (H1.out.below hb)
  replace H2 := hide (H2.out.below hb)
  replace H3 := hide (H3.out.below hb)
  clear hWa hb
  refine (markSvs_any s0 s1 _ B.ss _ _ H1.out HN.out.1 (by omega) (by omega)).mono ?_
  rintro e w1 ⟨rfl, ht1, hq1⟩
  have HX1 := hide (HX0.out.touch ht1 (by omega))
  have HT1 : Hid (Touch lo hi w w1) := HT0.out.trans (ht1.wide (by omega) (by omega))
  replace H1 := hide hq1
  replace H2 := hide (H2.out.touch ht1 (by omega))
  replace H3 := hide (H3.out.touch ht1 (by omega))
  clear ht1 hq1 HX0 HT0
  have c1 := HX1.out.cell 2
  simp at c1
  go_wp2_with fail
  clear c1
  refine (markCps_any c0 c1 _ B.cs _ _ H2.out HN.out.2.1 (by omega) (by omega)).mono ?_
  rintro e w2 ⟨rfl, ht2, hq2⟩
  have HX2 := hide (HX1.out.touch ht2 (by omega))
  have HT2 : Hid (Touch lo hi w w2) := HT1.out.trans (ht2.wide (by omega) (by omega))
  replace H1 := hide (H1.out.touch ht2 (by omega))
  replace H2 := hide hq2
  replace H3 := hide (H3.out.touch ht2 (by omega))
  clear ht2 hq2 HX1 HT1
  have c2 := HX2.out.cell 3
  simp at c2
  go_wp2_with fail
  clear c2
  refine (markBes_any b0 b1 _ B.bs _ _ H3.out HN.out.2.2 (by omega) (by omega)).mono ?_
  rintro e w3 ⟨rfl, ht3, hq3⟩
  have HX3 := hide (HX2.out.touch ht3 (by omega))
  have HT3 : Hid (Touch lo hi w w3) := HT2.out.trans (ht3.wide (by omega) (by omega))
  replace H1 := hide (H1.out.touch ht3 (by omega))
  replace H2 := hide (H2.out.touch ht3 (by omega))
  replace H3 := hide hq3
  clear ht3 hq3 HX2 HT2
  go_wp2
  go_ret
  exact ⟨rfl, HT3.out, s0, s1, c0, c1, b0, b1, HP.out, H1.out, H2.out, H3.out⟩

end
end Go.Proofs.YtemggnmooiaokaaGreat
namespace Go.Proofs.YtemggnmooiaokaaGreat
open Go.RowKit Go.Deep

def BesFillO (wr : World) (B : Nat) (Xl : List Be) (k : Nat) (c : Nat → Nat) : Prop :=
  B < c 0 ∧ (∀ i, i < k → c i ≤ c (i + 1)) ∧ c k ≤ wr.heap.size ∧ ∃ f, wr.rowIs B 85 (Xl.length * 2) f ∧ ∀ i (h : i < Xl.length), i < k → BeSize Xl[i] ∧ f (i * 2) = .string Xl[i].nm ∧ f (i * 2 + 1) = .bool Xl[i].dr
theorem BesFillO.le {wr : World} {B : Nat} {Xl : List Be} {k : Nat} {c : Nat → Nat} (h : BesFillO wr B Xl k c) {i : Nat} : ∀ {j : Nat}, i ≤ j → j ≤ k → c i ≤ c j := by
  intro j
  induction j with
  | zero => intro hij _; have : i = 0 := by omega
            subst this; exact Nat.le_refl _
  | succ j ih =>
    intro hij hjn
    by_cases e : i = j + 1
    · subst e; exact Nat.le_refl _
    · exact Nat.le_trans (ih (by omega) (by omega)) (h.2.1 j (by omega))
theorem BesFillO.below {wr w1 : World} {B : Nat} {Xl : List Be} {k : Nat} {c : Nat → Nat} (h : BesFillO wr B Xl k c) (hb : Below wr.heap.size wr w1) : BesFillO w1 B Xl k c := by
  obtain ⟨g1, g2, g3, f, hr, hall⟩ := h
  refine ⟨g1, g2, Nat.le_trans g3 hb.size, f, hr.of_block (hb.block B hr.lt), fun i hi hik => ?_⟩
  obtain ⟨hz, h0, h1⟩ := hall i hi hik
  exact ⟨hz, h0, h1⟩
theorem BesFillO.free {wr : World} {B : Nat} {Xl : List Be} {k : Nat} {c : Nat → Nat} (h : BesFillO wr B Xl k c) (i : Nat) : wr.frozen? ⟨B, i, none⟩ = false := by
  obtain ⟨_, _, _, f, hr, _⟩ := h
  exact hr.frozen i
theorem BesFillO.there {wr : World} {B : Nat} {Xl : List Be} {k : Nat} {c : Nat → Nat} (h : BesFillO wr B Xl k c) (i : Nat) (hi : i < Xl.length * 2) : ∃ v, wr.cell? ⟨B, i, none⟩ = some v := by
  obtain ⟨_, _, _, f, hr, _⟩ := h
  exact ⟨_, hr.cell hi⟩
theorem BesFillO.lt {wr : World} {B : Nat} {Xl : List Be} {k : Nat} {c : Nat → Nat} (h : BesFillO wr B Xl k c) : B < wr.heap.size := by
  obtain ⟨_, _, _, f, hr, _⟩ := h
  exact hr.lt
theorem BesFillO.step {w1 : World} {B : Nat} {Xl : List Be} {k : Nat} {c : Nat → Nat} (h : BesFillO w1 B Xl k c) (hk : k < Xl.length) (hz : BeSize Xl[k]) (d : Nat) (hd0 : c k ≤ d) (hd : d ≤ w1.heap.size) :
    BesFillO ((w1.setCell ⟨B, k * 2, none⟩ (.string Xl[k].nm)).setCell ⟨B, k * 2 + 1, none⟩ (.bool Xl[k].dr)) B Xl (k + 1) (fun j => if j ≤ k then c j else d) := by
  have hle := fun i (hi : i ≤ k) => h.le (i := 0) (j := i) (Nat.zero_le _) hi
  have hle2 := fun i (hi : i < k) => h.le (i := i + 1) (j := k) (by omega) (Nat.le_refl _)
  obtain ⟨g1, g2, g3, f, hr, hall⟩ := h
  have hts : Touch B (B + 1) w1 ((w1.setCell ⟨B, k * 2, none⟩ (.string Xl[k].nm)).setCell ⟨B, k * 2 + 1, none⟩ (.bool Xl[k].dr)) := (Touch.setB B _ _ _).trans (Touch.setB B _ _ _)
  refine ⟨by simpa using g1, fun i hi => ?_, ?_, _, ((hr.set _ _).set _ _), fun i hi hik => ?_⟩
  · dsimp only
    by_cases e : i = k
    · subst e; rw [if_pos (Nat.le_refl _), if_neg (by omega)]; exact hd0
    · rw [if_pos (by omega), if_pos (by omega)]; exact g2 i (by omega)
  · dsimp only; rw [if_neg (by omega)]; exact Nat.le_trans hd hts.size
  by_cases e : i = k
  · subst e
    have hb0 := hle i (Nat.le_refl _)
    exact ⟨hz, by simp, by simp⟩
  · have hb0 := hle i (by omega)
    obtain ⟨hz, h0, h1⟩ := hall i hi (by omega)
    refine ⟨hz, ?_, ?_⟩
    · rw [if_neg (by omega), if_neg (by omega)]; exact h0
    · rw [if_neg (by omega), if_neg (by omega)]; exact h1
theorem BesFillO.own {wr : World} {B : Nat} {Xl : List Be} {k : Nat} {c : Nat → Nat} (h : BesFillO wr B Xl k c) (hk : k = Xl.length) (hne : Xl ≠ []) (hm : Xl.length ≤ maxLen) : BesOwn B wr.heap.size wr (.slice (some ⟨B, 0, none⟩) Xl.length Xl.length) Xl := by
  subst hk
  obtain ⟨g1, g2, g3, f, hr, hall⟩ := h
  have h0 : 0 < Xl.length := List.length_pos_iff.2 hne
  refine Or.inr ⟨B, 0, Xl.length, c, fun i => if h : i < Xl.length then Xl[i] else Xl[0], rfl, hne, hm, Nat.le_refl _, fun i hi => by simp [hi], hr.lt, Nat.le_refl _, g1, hr.lt, g2, g3, fun i => hr.frozen i, fun i hi => ?_⟩
  obtain ⟨hz, h0, h1⟩ := hall i hi hi
  simp only [hi, dif_pos]
  rw [Nat.zero_add]
  exact ⟨hz, ⟨by rw [hr.cell (by omega), h0], by rw [hr.cell (by omega), h1]⟩⟩
theorem BesFillO.new (w : World) (Xl : List Be) (z : Array Value) : BesFillO (w.alloc (.cells (madeCells z (Xl.length * 2)) 85)) w.heap.size Xl 0 (fun _ => w.heap.size + 1) := by
  refine ⟨Nat.lt_succ_self _, fun i hi => by omega, by simp, fun i => (madeCells z (Xl.length * 2)).getD i default, ?_, fun i _ h => by omega⟩
  have := World.rowIs_alloc w (madeCells z (Xl.length * 2)) 85 (fun i => (madeCells z (Xl.length * 2)).getD i default) (fun i hi => by simp [Array.getD, hi])
  rwa [size_madeCells] at this
set_option maxHeartbeats 4000000 in
theorem toBesO_any (lo : Nat) (v : Value) (Xl : List Be) (w : World) (hv : BesAt lo w v Xl) (hn : BesSmall Xl) :
    Calls Tryz.prog 24 #[v] w fun e w' => ∃ v', e = .returned v' ∧ Below w.heap.size w w' ∧ BesOwn w.heap.size w'.heap.size w' v' Xl := by
  obtain ⟨i0, hi, hz0, hz1, hz2⟩ := info_parts Tryz.info85
  have HSM := hide hn.2
  have hn1 := hn.1
  clear hn
  by_cases hL : Xl = []
  · subst hL
    obtain ⟨a, cap, rfl⟩ := hv.form
    clear hv
    have hmk : ∀ u : World, (Instr.makeSlice 31 (.int .i64 0) (.int .i64 0)).run Tryz.prog u = .ok (.slice (some ⟨u.heap.size, 0, none⟩) 0 0) (u.alloc (.cells (madeCells (Value.cells (.agg #[.string ⟨#[]⟩, .bool false])) 0) 85)) := fun u => by
      have h := run_make (P := Tryz.prog) u 31 85 i0 _ Tryz.underlying31 hi hz0 .i64 .i64 0 0 (by omega) (by omega) (by omega) (by omega)
      simpa [hz1] using h
    go_enter Tryz.func24, Tryz.ntmps24
    go_wp2
    go_loop [4] (fun i => i = .int .i64 0) (fun _ => 0)
    case atStart => rfl
    case round =>
      subst hrel
      go_wp2
      go_ret
      exact ⟨_, rfl, (Below.refl _ _).alloc (Nat.le_refl _) _, Or.inl ⟨_, _, rfl, rfl⟩⟩
  · obtain ⟨b, off, cap, rfl, hm, hbw, _, hc⟩ := hv.full hL
    clear hv
    have HM : Hid (Xl.length ≤ maxLen) := hm
    unfold maxLen at hm
    have hmk : ∀ u : World, (Instr.makeSlice 31 (.int .i64 (Xl.length : Int)) (.int .i64 (Xl.length : Int))).run Tryz.prog u = .ok (.slice (some ⟨u.heap.size, 0, none⟩) Xl.length Xl.length) (u.alloc (.cells (madeCells (Value.cells (.agg #[.string ⟨#[]⟩, .bool false])) (Xl.length * 2)) 85)) := fun u => by
      have h := run_make (P := Tryz.prog) u 31 85 i0 _ Tryz.underlying31 hi hz0 .i64 .i64 Xl.length Xl.length (by omega) (by omega) (by rw [hz2]; omega) (by omega)
      rw [hz1] at h
      simpa using h
    clear hi hz0 hz1 hz2
    go_enter Tryz.func24, Tryz.ntmps24
    go_wp2
    clear hmk
    go_loopw [4] (fun i wr => ∃ (k : Nat) (c : Nat → Nat), i = .int .i64 k ∧ k ≤ Xl.length ∧ Below w.heap.size w wr ∧ BesFillO wr w.heap.size Xl k c) (fun i _ => Xl.length - (intOf i).toNat)
    case atStart => exact ⟨0, _, rfl, by omega, (Below.refl _ _).alloc (Nat.le_refl _) _, BesFillO.new w Xl _⟩
    case round =>
      obtain ⟨k, c, rfl, hk, hb, hf⟩ := hrel
      by_cases hlt : k < Xl.length
      · obtain ⟨hs, hc⟩ := hc k hlt
        have HB := hide hb
        have HF := hide hf
        have HSZ := hide hs
        obtain ⟨c0, c1⟩ := hc.below hb hbw
        clear hc hb hf hs
        go_wp2_with fail
        refine (toBe_any _ _).mono ?_
        rintro e w1 ⟨rfl, hb1⟩
        have hf1 := HF.out.below hb1
        have hB : Hid (Below w.heap.size w w1) := HB.out.trans (hb1.mono HB.out.size)
        have HST := hide (hf1.step hlt HSZ.out w1.heap.size (Nat.le_trans HF.out.2.2.1 hb1.size) (Nat.le_refl _))
        have hfr := hf1.free
        obtain ⟨o0, ho0⟩ := hf1.there (k * 2) (by omega)
        obtain ⟨o1, ho1⟩ := hf1.there (k * 2 + 1) (by omega)
        clear hf1 hb1 HF HB c0 c1
        go_wp2
        go_roundw
        case rel =>
          exact ⟨k + 1, _, by go_num, by omega, ((hB.out.setCell (Nat.le_refl _) _).setCell (Nat.le_refl _) _), HST.out⟩
        case measure => simp [intOf]; omega
      · have e : k = Xl.length := by omega
        go_wp2
        go_ret
        exact ⟨_, rfl, hb, hf.own e hL HM.out⟩
end Go.Proofs.YtemggnmooiaokaaGreat
namespace Go.Proofs.YtemggnmooiaokaaGreat
open Go.RowKit Go.Deep

theorem SvsOwn.setLow {lo hi : Nat} {w : World} {v : Value} {Xl : List Sv} (h : SvsOwn lo hi w v Xl) {p : Addr} (hp : p.block < lo) (u : Value) : SvsOwn lo hi (w.setCell p u) v Xl := h.touch (Touch.setCell p.block (p.block + 1) w p u ⟨Nat.le_refl _, Nat.lt_succ_self _⟩) (Or.inr hp)
theorem CpsOwn.setLow {lo hi : Nat} {w : World} {v : Value} {Xl : List Cp} (h : CpsOwn lo hi w v Xl) {p : Addr} (hp : p.block < lo) (u : Value) : CpsOwn lo hi (w.setCell p u) v Xl := h.touch (Touch.setCell p.block (p.block + 1) w p u ⟨Nat.le_refl _, Nat.lt_succ_self _⟩) (Or.inr hp)
theorem BesOwn.setLow {lo hi : Nat} {w : World} {v : Value} {Xl : List Be} (h : BesOwn lo hi w v Xl) {p : Addr} (hp : p.block < lo) (u : Value) : BesOwn lo hi (w.setCell p u) v Xl := h.touch (Touch.setCell p.block (p.block + 1) w p u ⟨Nat.le_refl _, Nat.lt_succ_self _⟩) (Or.inr hp)

section
variable (lo : Nat) (sv cv bv : Value) (B : Sb) (w : World)

set_option maxHeartbeats 8000000 in
theorem toSbO_any (h : SbAt lo w sv cv bv B) (hn : SbSmall B) :
    Calls Tryz.prog 7 #[.agg #[.int .i64 B.now, sv, cv, bv]] w
      fun e w' => ∃ b0 m0 b1 m1 b2 m2, e = .returned (.agg #[.int .i64 B.now, .slice b0 B.ss.length m0, .slice b1 B.cs.length m1, .slice b2 B.bs.length m2]) ∧ Below w.heap.size w w' ∧ SbOwn w.heap.size w'.heap.size w' (.slice b0 B.ss.length m0) (.slice b1 B.cs.length m1) (.slice b2 B.bs.length m2) B := by
  have HL := hide h
  obtain ⟨a0, k0, rfl⟩ := h.svs.form
  obtain ⟨a1, k1, rfl⟩ := h.cps.form
  obtain ⟨a2, k2, rfl⟩ := h.bes.form
  obtain ⟨hn0, hn1, hn2⟩ := hn
  clear h
  go_enter Tryz.func7, Tryz.ntmps7
  go_wp2_with fail
  obtain ⟨wz, hwz, HX0, HR0, HO0, HB0⟩ : ∃ wz, wz = ((w.alloc (.cells #[.int .i64 B.now, .slice a0 B.ss.length k0, .slice a1 B.cs.length k1, .slice a2 B.bs.length k2] 26)).alloc (.cells #[.int .i64 0, .slice none 0 0, .slice none 0 0, .slice none 0 0] 33)).alloc (.cells #[.int .i64 B.now, .slice none 0 0, .slice none 0 0, .slice none 0 0] 33) ∧
      Hid (Box wz w.heap.size #[.int .i64 B.now, .slice a0 B.ss.length k0, .slice a1 B.cs.length k1, .slice a2 B.bs.length k2]) ∧ Hid (Box wz (w.heap.size + 1) #[.int .i64 0, .slice none 0 0, .slice none 0 0, .slice none 0 0]) ∧ Hid (Box wz (w.heap.size + 1 + 1) #[.int .i64 B.now, .slice none 0 0, .slice none 0 0, .slice none 0 0]) ∧ Hid (Below w.heap.size w wz) :=
    ⟨_, rfl, ((Box.new w _ _ _ rfl).on (one_al _ _)).on (one_al _ _), (Box.new _ _ _ _ (by simp)).on (one_al _ _), Box.new _ _ _ _ (by simp), ((one_al _ _).trans ((one_al _ _).mono (by simp))).trans ((one_al _ _).mono (by simp; omega))⟩
  rw [← hwz]
  clear hwz
  generalize wz = v0 at *
  have hz0 : w.heap.size + 3 ≤ v0.heap.size := by have := HO0.out.lt; omega
  refine (toSvsO_any lo _ B.ss _ (HL.out.below HB0.out).svs hn0).mono ?_
  rintro e w0 ⟨u0, rfl, hb0, hs0⟩
  obtain ⟨b0, m0, rfl⟩ := hs0.form
  have GX := hide (HX0.out.on hb0)
  have GR := hide (HR0.out.on hb0)
  have GO := hide (HO0.out.on hb0)
  have GB := hide (HB0.out.trans (hb0.mono HB0.out.size))
  have GN := hide hs0
  have hsz0 := hb0.size
  clear hb0 hs0 HX0 HR0 HO0 HB0
  have o0 := GO.out.cell 1
  have f0 := GO.out.free 1
  have x1 := GX.out.cell 2
  simp at o0 f0 x1
  go_wp2_with fail
  clear o0 f0 x1
  obtain ⟨v1, hwq, HX1, HR1, HO1, HB1, hq1, HS0⟩ : ∃ wq, wq = w0.setCell ⟨w.heap.size + 1 + 1, 1, none⟩ (.slice b0 B.ss.length m0) ∧
      Hid (Box wq w.heap.size #[.int .i64 B.now, .slice a0 B.ss.length k0, .slice a1 B.cs.length k1, .slice a2 B.bs.length k2]) ∧ Hid (Box wq (w.heap.size + 1) #[.int .i64 0, .slice none 0 0, .slice none 0 0, .slice none 0 0]) ∧ Hid (Box wq (w.heap.size + 1 + 1) #[.int .i64 B.now, .slice b0 B.ss.length m0, .slice none 0 0, .slice none 0 0]) ∧ Hid (Below w.heap.size w wq) ∧ wq.heap.size = w0.heap.size ∧ Hid (SvsOwn v0.heap.size w0.heap.size wq (.slice b0 B.ss.length m0) B.ss) :=
    ⟨_, rfl, GX.out.setFar (by simp only []; omega) _, GR.out.setFar (by simp only []; omega) _, GO.out.set (k := 1) (.slice b0 B.ss.length m0) (by simp), GB.out.setCell (by simp only []; omega) _, by simp [World.setCell], GN.out.setLow (by simp only []; omega) _⟩
  rw [← hwq]
  clear hwq GX GR GO GB GN
  have hz1 : w.heap.size + 3 ≤ v1.heap.size := by omega
  refine (toCpsO_any lo _ B.cs _ (HL.out.below HB1.out).cps hn1).mono ?_
  rintro e w1 ⟨u1, rfl, hb1, hs1⟩
  obtain ⟨b1, m1, rfl⟩ := hs1.form
  have GX := hide (HX1.out.on hb1)
  have GR := hide (HR1.out.on hb1)
  have GO := hide (HO1.out.on hb1)
  have GB := hide (HB1.out.trans (hb1.mono HB1.out.size))
  have GN := hide hs1
  have hsz1 := hb1.size
  have G0 := hide (HS0.out.below hb1)
  clear hb1 hs1 HX1 HR1 HO1 HB1 HS0
  have o0 := GO.out.cell 2
  have f0 := GO.out.free 2
  have x1 := GX.out.cell 3
  simp at o0 f0 x1
  go_wp2_with fail
  clear o0 f0 x1
  obtain ⟨v2, hwq, HX2, HR2, HO2, HB2, hq2, HS1, HS0⟩ : ∃ wq, wq = w1.setCell ⟨w.heap.size + 1 + 1, 2, none⟩ (.slice b1 B.cs.length m1) ∧
      Hid (Box wq w.heap.size #[.int .i64 B.now, .slice a0 B.ss.length k0, .slice a1 B.cs.length k1, .slice a2 B.bs.length k2]) ∧ Hid (Box wq (w.heap.size + 1) #[.int .i64 0, .slice none 0 0, .slice none 0 0, .slice none 0 0]) ∧ Hid (Box wq (w.heap.size + 1 + 1) #[.int .i64 B.now, .slice b0 B.ss.length m0, .slice b1 B.cs.length m1, .slice none 0 0]) ∧ Hid (Below w.heap.size w wq) ∧ wq.heap.size = w1.heap.size ∧ Hid (CpsOwn v1.heap.size w1.heap.size wq (.slice b1 B.cs.length m1) B.cs) ∧ Hid (SvsOwn v0.heap.size w0.heap.size wq (.slice b0 B.ss.length m0) B.ss) :=
    ⟨_, rfl, GX.out.setFar (by simp only []; omega) _, GR.out.setFar (by simp only []; omega) _, GO.out.set (k := 2) (.slice b1 B.cs.length m1) (by simp), GB.out.setCell (by simp only []; omega) _, by simp [World.setCell], GN.out.setLow (by simp only []; omega) _, G0.out.setLow (by simp only []; omega) _⟩
  rw [← hwq]
  clear hwq GX GR GO GB GN G0
  have hz2 : w.heap.size + 3 ≤ v2.heap.size := by omega
  refine (toBesO_any lo _ B.bs _ (HL.out.below HB2.out).bes hn2).mono ?_
  rintro e w2 ⟨u2, rfl, hb2, hs2⟩
  obtain ⟨b2, m2, rfl⟩ := hs2.form
  have GX := hide (HX2.out.on hb2)
  have GR := hide (HR2.out.on hb2)
  have GO := hide (HO2.out.on hb2)
  have GB := hide (HB2.out.trans (hb2.mono HB2.out.size))
  have GN := hide hs2
  have hsz2 := hb2.size
  have G0 := hide (HS0.out.below hb2)
  have G1 := hide (HS1.out.below hb2)
  clear hb2 hs2 HX2 HR2 HO2 HB2 HS0 HS1
  have o0 := GO.out.cell 0
  have o1 := GO.out.cell 1
  have o2 := GO.out.cell 2
  have o3 := GO.out.cell 3
  have f6 := GO.out.free 3
  have r0 := GR.out.cell 0
  have g0 := GR.out.free 0
  have r1 := GR.out.cell 1
  have g1 := GR.out.free 1
  have r2 := GR.out.cell 2
  have g2 := GR.out.free 2
  have r3 := GR.out.cell 3
  have g3 := GR.out.free 3
  simp at o0 r0 o1 r1 o2 r2 o3 r3
  go_wp2
  refine bodyPost_ret (v := .agg #[.int .i64 B.now, .slice b0 B.ss.length m0, .slice b1 B.cs.length m1, .slice b2 B.bs.length m2]) (by simp [results, Tryz.results7, go_sem, r0, r1, r2, r3]) rfl ⟨_, _, _, _, _, _, rfl, ?_, v0.heap.size, w0.heap.size, v1.heap.size, w1.heap.size, v2.heap.size, w2.heap.size, ⟨?_, ?_, ?_, by omega, by omega, by omega⟩, ?_, ?_, ?_⟩
  · repeat (refine Below.setCell ?_ (by simp only []; omega) _)
    exact GB.out
  · simp [World.setCell]; omega
  · simp [World.setCell]; omega
  · simp [World.setCell]; omega
  · repeat (refine SvsOwn.setLow ?_ (by simp only []; omega) _)
    exact G0.out
  · repeat (refine CpsOwn.setLow ?_ (by simp only []; omega) _)
    exact G1.out
  · repeat (refine BesOwn.setLow ?_ (by simp only []; omega) _)
    exact GN.out
end
end Go.Proofs.YtemggnmooiaokaaGreat
