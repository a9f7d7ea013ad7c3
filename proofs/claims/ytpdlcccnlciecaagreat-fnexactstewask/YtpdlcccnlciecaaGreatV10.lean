import Derived.Test.YtpdlcccnlciecaaGreatV08
import Derived.Test.YtpdlcccnlciecaaGreatV09
import Derived.Sort.Walk0
namespace Go.Proofs.YtpdlcccnlciecaaGreat
open Go.RowKit Go.Deep

def EnsFillO (wr : World) (B : Nat) (Xl : List En) (k : Nat) (c : Nat → Nat) : Prop :=
  B < c 0 ∧ (∀ i, i < k → c i ≤ c (i + 1)) ∧ c k ≤ wr.heap.size ∧ ∃ f, wr.rowIs B 113 (Xl.length * 2) f ∧ ∀ i (h : i < Xl.length), i < k → EnSize Xl[i] ∧ f (i * 2) = .int .i64 Xl[i].nu ∧ f (i * 2 + 1) = .int .i64 Xl[i].sn
theorem EnsFillO.le {wr : World} {B : Nat} {Xl : List En} {k : Nat} {c : Nat → Nat} (h : EnsFillO wr B Xl k c) {i : Nat} : ∀ {j : Nat}, i ≤ j → j ≤ k → c i ≤ c j := by
  intro j
  induction j with
  | zero => intro hij _; have : i = 0 := by omega
            subst this; exact Nat.le_refl _
  | succ j ih =>
    intro hij hjn
    by_cases e : i = j + 1
    · subst e; exact Nat.le_refl _
    · exact Nat.le_trans (ih (by omega) (by omega)) (h.2.1 j (by omega))
theorem EnsFillO.below {wr w1 : World} {B : Nat} {Xl : List En} {k : Nat} {c : Nat → Nat} (h : EnsFillO wr B Xl k c) (hb : Below wr.heap.size wr w1) : EnsFillO w1 B Xl k c := by
  obtain ⟨g1, g2, g3, f, hr, hall⟩ := h
  refine ⟨g1, g2, Nat.le_trans g3 hb.size, f, hr.of_block (hb.block B hr.lt), fun i hi hik => ?_⟩
  obtain ⟨hz, h0, h1⟩ := hall i hi hik
  exact ⟨hz, h0, h1⟩
theorem EnsFillO.free {wr : World} {B : Nat} {Xl : List En} {k : Nat} {c : Nat → Nat} (h : EnsFillO wr B Xl k c) (i : Nat) : wr.frozen? ⟨B, i, none⟩ = false := by
  obtain ⟨_, _, _, f, hr, _⟩ := h
  exact hr.frozen i
theorem EnsFillO.there {wr : World} {B : Nat} {Xl : List En} {k : Nat} {c : Nat → Nat} (h : EnsFillO wr B Xl k c) (i : Nat) (hi : i < Xl.length * 2) : ∃ v, wr.cell? ⟨B, i, none⟩ = some v := by
  obtain ⟨_, _, _, f, hr, _⟩ := h
  exact ⟨_, hr.cell hi⟩
theorem EnsFillO.lt {wr : World} {B : Nat} {Xl : List En} {k : Nat} {c : Nat → Nat} (h : EnsFillO wr B Xl k c) : B < wr.heap.size := by
  obtain ⟨_, _, _, f, hr, _⟩ := h
  exact hr.lt
theorem EnsFillO.step {w1 : World} {B : Nat} {Xl : List En} {k : Nat} {c : Nat → Nat} (h : EnsFillO w1 B Xl k c) (hk : k < Xl.length) (hz : EnSize Xl[k]) (d : Nat) (hd0 : c k ≤ d) (hd : d ≤ w1.heap.size) :
    EnsFillO ((w1.setCell ⟨B, k * 2, none⟩ (.int .i64 Xl[k].nu)).setCell ⟨B, k * 2 + 1, none⟩ (.int .i64 Xl[k].sn)) B Xl (k + 1) (fun j => if j ≤ k then c j else d) := by
  have hle := fun i (hi : i ≤ k) => h.le (i := 0) (j := i) (Nat.zero_le _) hi
  have hle2 := fun i (hi : i < k) => h.le (i := i + 1) (j := k) (by omega) (Nat.le_refl _)
  obtain ⟨g1, g2, g3, f, hr, hall⟩ := h
  have hts : Touch B (B + 1) w1 ((w1.setCell ⟨B, k * 2, none⟩ (.int .i64 Xl[k].nu)).setCell ⟨B, k * 2 + 1, none⟩ (.int .i64 Xl[k].sn)) := (Touch.setB B _ _ _).trans (Touch.setB B _ _ _)
  refine ⟨by simpa using g1, fun i hi => ?_, ?_, _, ((hr.set _ _).set _ _), fun i hi hik => ?_⟩
  · dsimp only
    by_cases e : i = k
    · subst e; rw [if_pos (Nat.le_refl _), if_neg (by omega)]; exact hd0
    · rw [if_pos (by omega), if_pos (by omega)]; exact g2 i (by omega)
  · dsimp only; rw [if_neg (by omega)]; exact Nat.le_trans hd hts.size
  by_cases e : i = k
  · subst e
    have hb0 := hle i (Nat.le_refl _)
    exact ⟨hz, by simp, by simp⟩
  · have hb0 := hle i (by omega)
    obtain ⟨hz, h0, h1⟩ := hall i hi (by omega)
    refine ⟨hz, ?_, ?_⟩
    · rw [if_neg (by omega), if_neg (by omega)]; exact h0
    · rw [if_neg (by omega), if_neg (by omega)]; exact h1
theorem EnsFillO.own {wr : World} {B : Nat} {Xl : List En} {k : Nat} {c : Nat → Nat} (h : EnsFillO wr B Xl k c) (hk : k = Xl.length) (hne : Xl ≠ []) (hm : Xl.length ≤ maxLen) : EnsOwn B wr.heap.size wr (.slice (some ⟨B, 0, none⟩) Xl.length Xl.length) Xl := by
  subst hk
  obtain ⟨g1, g2, g3, f, hr, hall⟩ := h
  have h0 : 0 < Xl.length := List.length_pos_iff.2 hne
  refine Or.inr ⟨B, 0, Xl.length, c, fun i => if h : i < Xl.length then Xl[i] else Xl[0], rfl, hne, hm, Nat.le_refl _, fun i hi => by simp [hi], hr.lt, Nat.le_refl _, g1, hr.lt, g2, g3, fun i => hr.frozen i, fun i hi => ?_⟩
  obtain ⟨hz, h0, h1⟩ := hall i hi hi
  simp only [hi, dif_pos]
  rw [Nat.zero_add]
  exact ⟨hz, ⟨by rw [hr.cell (by omega), h0], by rw [hr.cell (by omega), h1]⟩⟩
theorem EnsFillO.new (w : World) (Xl : List En) (z : Array Value) : EnsFillO (w.alloc (.cells (madeCells z (Xl.length * 2)) 113)) w.heap.size Xl 0 (fun _ => w.heap.size + 1) := by
  refine ⟨Nat.lt_succ_self _, fun i hi => by omega, by simp, fun i => (madeCells z (Xl.length * 2)).getD i default, ?_, fun i _ h => by omega⟩
  have := World.rowIs_alloc w (madeCells z (Xl.length * 2)) 113 (fun i => (madeCells z (Xl.length * 2)).getD i default) (fun i hi => by simp [Array.getD, hi])
  rwa [size_madeCells] at this
end Go.Proofs.YtpdlcccnlciecaaGreat
namespace Go.Proofs.YtpdlcccnlciecaaGreat
open Go.RowKit Go.Deep

set_option maxRecDepth 20000 in
set_option maxHeartbeats 8000000 in
theorem markBes_any (lo hi : Nat) (v : Value) (Xl : List Be) (k : Int) (w : World) (hv : BesOwn lo hi w v Xl) (hn : BesSmall Xl) (h0 : 0 ≤ k) (hk : k ≤ 2000000000000000000) :
    Calls Tryz.prog 30 #[v, .int .i64 k] w fun e w' => e = .returned (.int .i64 (k + (posBe Xl Xl.length : Int))) ∧ Touch lo hi w w' ∧ BesOwn lo hi w' v (mkBes k Xl) := by
  rcases hv with ⟨a, cap, rfl, rfl⟩ | ⟨b, off, cap, c, X, rfl, hne, hm, hcap, hX, hR⟩
  · go_enter Tryz.func30, Tryz.ntmps30
    go_wp2
    go_loop [5, 1] (fun i q => i = .int .i64 0 ∧ q = .int .i64 k) (fun _ _ => 0)
    case atStart => exact ⟨rfl, rfl⟩
    case round =>
      obtain ⟨rfl, rfl⟩ := hrel
      go_wp2
      go_ret
      exact ⟨by simp [posBe], Touch.refl _ _ _, Or.inl ⟨_, _, rfl, rfl⟩⟩
  · have hlen := hn.1
    have HN := hide hn
    have HX := hide hX
    have HR0 := hide hR
    have HM := hide hm
    have HC := hide hcap
    have HNE := hide hne
    clear hn hX hR hm hcap hne
    go_enter Tryz.func30, Tryz.ntmps30
    go_wp2
    go_loopw [5, 1] (fun i q wr => ∃ j : Nat, i = .int .i64 j ∧ q = .int .i64 (k + (posBe Xl j : Int)) ∧ j ≤ Xl.length ∧ Touch lo hi w wr ∧ BeRow lo hi wr b off Xl.length c (fun i => if i < j then mkBe (k + (posBe Xl i : Int)) (X i) else X i)) (fun i _ _ => Xl.length - (intOf i).toNat)
    case atStart => exact ⟨0, rfl, by simp [posBe], by omega, Touch.refl _ _ _, HR0.out.to (fun i _ => by simp)⟩
    case round =>
      obtain ⟨j, rfl, rfl, hj, ht, hr⟩ := hrel
      have HT := hide ht
      have HR := hide hr
      clear ht hr HR0
      by_cases hlt : j < Xl.length
      · have hpos := posBe_le HN.out (i := j) (by omega)
        have HP := hide (posBe_succ hlt)
        have hone : BeOne b (off + j * 2) (c j) (c (j + 1)) wr (X j) := by
          have := HR.out.row j hlt
          simp only [Nat.lt_irrefl, if_false] at this
          exact this
        have hxj : X j = Xl[j] := HX.out j hlt
        obtain ⟨x, hx⟩ : ∃ x, x = X j := ⟨_, rfl⟩
        rw [← hx] at hone
        obtain ⟨hs, hc⟩ := hone
        have HXJ := hide hxj
        have HXX := hide hx
        obtain ⟨K, hK⟩ : ∃ K, K = k + (posBe Xl j : Int) := ⟨_, rfl⟩
        rw [← hK]
        have hK0 : 0 ≤ K := by omega
        have hK1 : K ≤ 2500000000000000000 := by omega
        have HK := hide hK
        have HBC : Hid (b < c j) := Nat.lt_of_lt_of_le HR.out.bc (HR.out.le (Nat.zero_le _) (by omega))
        have HS : Hid (BeSt wr b (off + j * 2) (c j) (c (j + 1)) wr x) := ⟨Near.refl _ _ _ _ _ _, HBC.out, hc, HR.out.frz, HR.out.lt⟩
        clear hpos hxj hx hs hc hK
        obtain ⟨d0, d1⟩ := HS.out.cells
        have fz := HS.out.frz
        go_wp2_with fail
        clear d0 d1 fz
        refine (markText_any _ _ (by omega)).mono ?_
        rintro e v1 ⟨rfl, hb⟩
        have HS1 := hide (HS.out.below hb)
        clear hb HS
        obtain ⟨d0, d1⟩ := HS1.out.cells
        have fz := HS1.out.frz
        go_wp2
        clear d0 d1 fz
        obtain ⟨v2, hv2, HS2⟩ : ∃ v', v' = ((v1.setCell ⟨b, off + j * 2, none⟩ (.string (mtB (K)))).setCell ⟨b, off + j * 2 + 1, none⟩ (.bool (((K + 1) % 3 == 0)))) ∧ Hid (BeSt wr b (off + j * 2) (c j) (c (j + 1)) v' ⟨mtB (K), ((K + 1) % 3 == 0)⟩) := ⟨_, rfl, ((HS1.out.s0 (mtB (K))).s1 (((K + 1) % 3 == 0)))⟩
        rw [← hv2]
        clear hv2 HS1
        have HW : Hid (wdBe Xl[j] = 2) := by unfold Hid; rw [← HXJ.out, ← HXX.out]; rfl
        have HQ : Hid ((K + 1 + 1 : Int) = k + (posBe Xl (j + 1) : Int)) := by
          have h1 := HP.out
          have h2 := HW.out
          have h3 := HK.out
          unfold Hid
          omega
        have HRN := hide (HR.out.near hlt HS2.out.near (show BeOne b (off + j * 2) (c j) (c (j + 1)) v2 (mkBe K x) from ⟨⟨mt_size _ (by omega)⟩, HS2.out.cells⟩))
        have HTN := hide (HS2.out.near.wide HR.out.lt (lo' := lo) (hi' := hi) (by have := HBC.out; have := HR.out.low; omega) (Nat.le_trans (HR.out.le (by omega) (Nat.le_refl _)) HR.out.top) ⟨HR.out.low, HR.out.bh⟩)
        go_roundw
        case rel =>
          refine ⟨j + 1, by go_num, congrArg (Value.int .i64) HQ.out, by omega, HT.out.trans HTN.out, HRN.out.to (fun i hi' => ?_)⟩
          by_cases e : i = j
          · subst e
            rw [if_pos rfl, if_pos (by omega), ← HK.out, HXX.out]
          · rw [if_neg e]
            by_cases e2 : i < j
            · rw [if_pos e2, if_pos (by omega)]
            · rw [if_neg e2, if_neg (by omega)]
        case measure => simp [intOf]; omega
      · have e : j = Xl.length := by omega
        subst e
        go_wp2
        go_ret
        refine ⟨rfl, HT.out, Or.inr ⟨b, off, cap, c, fun i => mkBe (k + (posBe Xl i : Int)) (X i), by rw [mkBes_len], ?_, by rw [mkBes_len]; exact HM.out, by rw [mkBes_len]; exact HC.out, fun i h => ?_, ?_⟩⟩
        · intro e
          have := congrArg List.length e
          rw [mkBes_len] at this
          exact HNE.out (List.length_eq_zero_iff.1 (by simpa using this))
        · have h' : i < Xl.length := by rw [mkBes_len] at h; exact h
          rw [mkBes_get _ _ _ _ h', ← HX.out i h']
        · rw [mkBes_len]
          exact HR.out.to (fun i hi' => by rw [if_pos hi'])
end Go.Proofs.YtpdlcccnlciecaaGreat
namespace Go.Proofs.YtpdlcccnlciecaaGreat
open Go.RowKit Go.Deep

theorem Box.touch {w w' : World} {β lo hi : Nat} {cs : Array Value} (h : Box w β cs) (ht : Touch lo hi w w') (hb : β < lo ∨ hi ≤ β) : Box w' β cs :=
  ⟨Nat.lt_of_lt_of_le h.lt ht.size, fun i => (ht.cell (p := ⟨β, i, none⟩) h.lt hb).trans (h.cell i), fun i => (ht.frozen (p := ⟨β, i, none⟩) h.lt hb).trans (h.free i)⟩
/-- the parts of a book of one's own lie apart -/
structure ApartS (lo hi s0 s1 c0 c1 b0 b1 : Nat) : Prop where
  s : lo ≤ s0 ∧ s1 ≤ hi
  c : lo ≤ c0 ∧ c1 ≤ hi
  b : lo ≤ b0 ∧ b1 ≤ hi
  sc : s1 ≤ c0 ∨ c1 ≤ s0
  sb : s1 ≤ b0 ∨ b1 ≤ s0
  cb : c1 ≤ b0 ∨ b1 ≤ c0
/-- a book of one's own -/
def SbOwn (lo hi : Nat) (w : World) (sv cv bv : Value) (B : Sb) : Prop :=
  ∃ s0 s1 c0 c1 b0 b1 : Nat, ApartS lo hi s0 s1 c0 c1 b0 b1 ∧ SvsOwn s0 s1 w sv B.ss ∧ CpsOwn c0 c1 w cv B.cs ∧ BesOwn b0 b1 w bv B.bs
theorem SbOwn.at {lo hi : Nat} {w : World} {sv cv bv : Value} {B : Sb} (h : SbOwn lo hi w sv cv bv B) : SbAt lo w sv cv bv B := by
  obtain ⟨_, _, _, _, _, _, ha, h1, h2, h3⟩ := h
  exact ⟨h1.at.mono ha.s.1, h2.at.mono ha.c.1, h3.at.mono ha.b.1⟩
theorem SbOwn.below {lo hi : Nat} {w w' : World} {sv cv bv : Value} {B : Sb} (h : SbOwn lo hi w sv cv bv B) (hb : Below w.heap.size w w') : SbOwn lo hi w' sv cv bv B := by
  obtain ⟨s0, s1, c0, c1, b0, b1, ha, h1, h2, h3⟩ := h
  exact ⟨s0, s1, c0, c1, b0, b1, ha, h1.below hb, h2.below hb, h3.below hb⟩
theorem SbOwn.touch {lo hi lo' hi' : Nat} {w w' : World} {sv cv bv : Value} {B : Sb} (h : SbOwn lo hi w sv cv bv B) (ht : Touch lo' hi' w w') (ho : hi ≤ lo' ∨ hi' ≤ lo) : SbOwn lo hi w' sv cv bv B := by
  obtain ⟨s0, s1, c0, c1, b0, b1, ha, h1, h2, h3⟩ := h
  have := ha.s
  have := ha.c
  have := ha.b
  exact ⟨s0, s1, c0, c1, b0, b1, ha, h1.touch ht (by omega), h2.touch ht (by omega), h3.touch ht (by omega)⟩
theorem SbOwn.wide {lo hi lo' hi' : Nat} {w : World} {sv cv bv : Value} {B : Sb} (h : SbOwn lo hi w sv cv bv B) (h1 : lo' ≤ lo) (h2 : hi ≤ hi') : SbOwn lo' hi' w sv cv bv B := by
  obtain ⟨s0, s1, c0, c1, b0, b1, ⟨q0, q1, q2, r0, r1, r2⟩, hh⟩ := h
  exact ⟨s0, s1, c0, c1, b0, b1, ⟨by omega, by omega, by omega, r0, r1, r2⟩, hh⟩
def mkSb (k : Int) (B : Sb) : Sb := ⟨B.now, mkSvs k B.ss, mkCps (k + (posSv B.ss B.ss.length : Int)) B.cs, mkBes (k + (posSv B.ss B.ss.length : Int) + (posCp B.cs B.cs.length : Int)) B.bs⟩
def endSb (k : Int) (B : Sb) : Int := k + (posSv B.ss B.ss.length : Int) + (posCp B.cs B.cs.length : Int) + (posBe B.bs B.bs.length : Int)
theorem posSb_le {B : Sb} (hn : SbSmall B) : posSv B.ss B.ss.length ≤ 4000000000000 ∧ posCp B.cs B.cs.length ≤ 4000000000000 ∧ posBe B.bs B.bs.length ≤ 4000000000000 := by
  obtain ⟨h1, h2, h3⟩ := hn
  have := posSv_le h1 (i := B.ss.length) (Nat.le_refl _)
  have := posCp_le h2 (i := B.cs.length) (Nat.le_refl _)
  have := posBe_le h3 (i := B.bs.length) (Nat.le_refl _)
  have := h1.1
  have := h2.1
  have := h3.1
  omega

section
variable (lo hi : Nat) (sv cv bv : Value) (B : Sb) (w : World)

set_option maxRecDepth 20000 in
set_option maxHeartbeats 4000000 in
theorem markSb_any (k : Int) (h : SbOwn lo hi w sv cv bv B) (hn : SbSmall B) (h0 : 0 ≤ k) (hk : k ≤ 1900000000000000000) (hhi : hi ≤ w.heap.size) :
    Calls Tryz.prog 10 #[.agg #[.int .i64 B.now, sv, cv, bv], .int .i64 k] w fun e w' => e = .returned (.int .i64 (endSb k B)) ∧ Touch lo hi w w' ∧ SbOwn lo hi w' sv cv bv (mkSb k B) := by
  obtain ⟨s0, s1, c0, c1, b0, b1, ha, h1, h2, h3⟩ := h
  obtain ⟨z0, z1, z2⟩ := posSb_le hn
  have HN := hide hn
  have HP := hide ha
  obtain ⟨⟨y0, y1⟩, ⟨y2, y3⟩, ⟨y4, y5⟩, ysc, ysb, ycb⟩ := ha
  have H1 := hide h1
  have H2 := hide h2
  have H3 := hide h3
  obtain ⟨a0, k0, rfl⟩ := h1.form
  obtain ⟨a1, k1, rfl⟩ := h2.form
  obtain ⟨a2, k2, rfl⟩ := h3.form
  clear h1 h2 h3 hn
  go_enter Tryz.func10, Tryz.ntmps10
  go_wp2_with fail
  generalize hWa : w.alloc _ = Wa
  have hb : Below w.heap.size w Wa := by rw [← hWa]; exact one_al w _
  have HX0 : Hid (Box Wa w.heap.size #[.int .i64 B.now, .slice a0 B.ss.length k0, .slice a1 B.cs.length k1, .slice a2 B.bs.length k2]) := by rw [← hWa]; exact Box.new _ _ _ _ rfl
  have HT0 : Hid (Touch lo hi w Wa) := Touch.below hb
  replace H1 := hide (H1.out.below hb)
  replace H2 := hide (H2.out.below hb)
  replace H3 := hide (H3.out.below hb)
  clear hWa hb
  refine (markSvs_any s0 s1 _ B.ss _ _ H1.out HN.out.1 (by omega) (by omega)).mono ?_
  rintro e w1 ⟨rfl, ht1, hq1⟩
  have HX1 := hide (HX0.out.touch ht1 (by omega))
  have HT1 : Hid (Touch lo hi w w1) := HT0.out.trans (ht1.wide (by omega) (by omega))
  replace H1 := hide hq1
  replace H2 := hide (H2.out.touch ht1 (by omega))
  replace H3 := hide (H3.out.touch ht1 (by omega))
  clear ht1 hq1 HX0 HT0
  have c1 := HX1.out.cell 2
  simp at c1
  go_wp2_with fail
  clear c1
  refine (markCps_any c0 c1 _ B.cs _ _ H2.out HN.out.2.1 (by omega) (by omega)).mono ?_
  rintro e w2 ⟨rfl, ht2, hq2⟩
  have HX2 := hide (HX1.out.touch ht2 (by omega))
  have HT2 : Hid (Touch lo hi w w2) := HT1.out.trans (ht2.wide (by omega) (by omega))
  replace H1 := hide (H1.out.touch ht2 (by omega))
  replace H2 := hide hq2
  replace H3 := hide (H3.out.touch ht2 (by omega))
  clear ht2 hq2 HX1 HT1
  have c2 := HX2.out.cell 3
  simp at c2
  go_wp2_with fail
  clear c2
  refine (markBes_any b0 b1 _ B.bs _ _ H3.out HN.out.2.2 (by omega) (by omega)).mono ?_
  rintro e w3 ⟨rfl, ht3, hq3⟩
  have HX3 := hide (HX2.out.touch ht3 (by omega))
  have HT3 : Hid (Touch lo hi w w3) := HT2.out.trans (ht3.wide (by omega) (by omega))
  replace H1 := hide (H1.out.touch ht3 (by omega))
  replace H2 := hide (H2.out.touch ht3 (by omega))
  replace H3 := hide hq3
  clear ht3 hq3 HX2 HT2
  go_wp2
  go_ret
  exact ⟨rfl, HT3.out, s0, s1, c0, c1, b0, b1, HP.out, H1.out, H2.out, H3.out⟩

end
end Go.Proofs.YtpdlcccnlciecaaGreat
namespace Go.Proofs.YtpdlcccnlciecaaGreat
open Go.RowKit Go.Deep

def CpsFillO (wr : World) (B : Nat) (Xl : List Cp) (k : Nat) (c : Nat → Nat) : Prop :=
  B < c 0 ∧ (∀ i, i < k → c i ≤ c (i + 1)) ∧ c k ≤ wr.heap.size ∧ ∃ f, wr.rowIs B 82 (Xl.length * 7) f ∧ ∀ i (h : i < Xl.length), i < k → CpSize Xl[i] ∧ f (i * 7) = .string Xl[i].se ∧ f (i * 7 + 1) = .int .i64 Xl[i].nu ∧ f (i * 7 + 2) = .int .i64 Xl[i].ve ∧ f (i * 7 + 3) = .int .i64 Xl[i].im ∧ f (i * 7 + 4) = .int .i64 Xl[i].st ∧ f (i * 7 + 5) = .bool Xl[i].en ∧ f (i * 7 + 6) = .string Xl[i].be
theorem CpsFillO.le {wr : World} {B : Nat} {Xl : List Cp} {k : Nat} {c : Nat → Nat} (h : CpsFillO wr B Xl k c) {i : Nat} : ∀ {j : Nat}, i ≤ j → j ≤ k → c i ≤ c j := by
  intro j
  induction j with
  | zero => intro hij _; have : i = 0 := by omega
            subst this; exact Nat.le_refl _
  | succ j ih =>
    intro hij hjn
    by_cases e : i = j + 1
    · subst e; exact Nat.le_refl _
    · exact Nat.le_trans (ih (by omega) (by omega)) (h.2.1 j (by omega))
theorem CpsFillO.below {wr w1 : World} {B : Nat} {Xl : List Cp} {k : Nat} {c : Nat → Nat} (h : CpsFillO wr B Xl k c) (hb : Below wr.heap.size wr w1) : CpsFillO w1 B Xl k c := by
  obtain ⟨g1, g2, g3, f, hr, hall⟩ := h
  refine ⟨g1, g2, Nat.le_trans g3 hb.size, f, hr.of_block (hb.block B hr.lt), fun i hi hik => ?_⟩
  obtain ⟨hz, h0, h1, h2, h3, h4, h5, h6⟩ := hall i hi hik
  exact ⟨hz, h0, h1, h2, h3, h4, h5, h6⟩
theorem CpsFillO.free {wr : World} {B : Nat} {Xl : List Cp} {k : Nat} {c : Nat → Nat} (h : CpsFillO wr B Xl k c) (i : Nat) : wr.frozen? ⟨B, i, none⟩ = false := by
  obtain ⟨_, _, _, f, hr, _⟩ := h
  exact hr.frozen i
theorem CpsFillO.there {wr : World} {B : Nat} {Xl : List Cp} {k : Nat} {c : Nat → Nat} (h : CpsFillO wr B Xl k c) (i : Nat) (hi : i < Xl.length * 7) : ∃ v, wr.cell? ⟨B, i, none⟩ = some v := by
  obtain ⟨_, _, _, f, hr, _⟩ := h
  exact ⟨_, hr.cell hi⟩
theorem CpsFillO.lt {wr : World} {B : Nat} {Xl : List Cp} {k : Nat} {c : Nat → Nat} (h : CpsFillO wr B Xl k c) : B < wr.heap.size := by
  obtain ⟨_, _, _, f, hr, _⟩ := h
  exact hr.lt
theorem CpsFillO.step {w1 : World} {B : Nat} {Xl : List Cp} {k : Nat} {c : Nat → Nat} (h : CpsFillO w1 B Xl k c) (hk : k < Xl.length) (hz : CpSize Xl[k]) (d : Nat) (hd0 : c k ≤ d) (hd : d ≤ w1.heap.size) :
    CpsFillO (((((((w1.setCell ⟨B, k * 7, none⟩ (.string Xl[k].se)).setCell ⟨B, k * 7 + 1, none⟩ (.int .i64 Xl[k].nu)).setCell ⟨B, k * 7 + 2, none⟩ (.int .i64 Xl[k].ve)).setCell ⟨B, k * 7 + 3, none⟩ (.int .i64 Xl[k].im)).setCell ⟨B, k * 7 + 4, none⟩ (.int .i64 Xl[k].st)).setCell ⟨B, k * 7 + 5, none⟩ (.bool Xl[k].en)).setCell ⟨B, k * 7 + 6, none⟩ (.string Xl[k].be)) B Xl (k + 1) (fun j => if j ≤ k then c j else d) := by
  have hle := fun i (hi : i ≤ k) => h.le (i := 0) (j := i) (Nat.zero_le _) hi
  have hle2 := fun i (hi : i < k) => h.le (i := i + 1) (j := k) (by omega) (Nat.le_refl _)
  obtain ⟨g1, g2, g3, f, hr, hall⟩ := h
  have hts : Touch B (B + 1) w1 (((((((w1.setCell ⟨B, k * 7, none⟩ (.string Xl[k].se)).setCell ⟨B, k * 7 + 1, none⟩ (.int .i64 Xl[k].nu)).setCell ⟨B, k * 7 + 2, none⟩ (.int .i64 Xl[k].ve)).setCell ⟨B, k * 7 + 3, none⟩ (.int .i64 Xl[k].im)).setCell ⟨B, k * 7 + 4, none⟩ (.int .i64 Xl[k].st)).setCell ⟨B, k * 7 + 5, none⟩ (.bool Xl[k].en)).setCell ⟨B, k * 7 + 6, none⟩ (.string Xl[k].be)) := ((((((Touch.setB B _ _ _).trans (Touch.setB B _ _ _)).trans (Touch.setB B _ _ _)).trans (Touch.setB B _ _ _)).trans (Touch.setB B _ _ _)).trans (Touch.setB B _ _ _)).trans (Touch.setB B _ _ _)
  refine ⟨by simpa using g1, fun i hi => ?_, ?_, _, (((((((hr.set _ _).set _ _).set _ _).set _ _).set _ _).set _ _).set _ _), fun i hi hik => ?_⟩
  · dsimp only
    by_cases e : i = k
    · subst e; rw [if_pos (Nat.le_refl _), if_neg (by omega)]; exact hd0
    · rw [if_pos (by omega), if_pos (by omega)]; exact g2 i (by omega)
  · dsimp only; rw [if_neg (by omega)]; exact Nat.le_trans hd hts.size
  by_cases e : i = k
  · subst e
    have hb0 := hle i (Nat.le_refl _)
    exact ⟨hz, by simp, by simp, by simp, by simp, by simp, by simp, by simp⟩
  · have hb0 := hle i (by omega)
    obtain ⟨hz, h0, h1, h2, h3, h4, h5, h6⟩ := hall i hi (by omega)
    refine ⟨hz, ?_, ?_, ?_, ?_, ?_, ?_, ?_⟩
    · rw [if_neg (by omega), if_neg (by omega), if_neg (by omega), if_neg (by omega), if_neg (by omega), if_neg (by omega), if_neg (by omega)]; exact h0
    · rw [if_neg (by omega), if_neg (by omega), if_neg (by omega), if_neg (by omega), if_neg (by omega), if_neg (by omega), if_neg (by omega)]; exact h1
    · rw [if_neg (by omega), if_neg (by omega), if_neg (by omega), if_neg (by omega), if_neg (by omega), if_neg (by omega), if_neg (by omega)]; exact h2
    · rw [if_neg (by omega), if_neg (by omega), if_neg (by omega), if_neg (by omega), if_neg (by omega), if_neg (by omega), if_neg (by omega)]; exact h3
    · rw [if_neg (by omega), if_neg (by omega), if_neg (by omega), if_neg (by omega), if_neg (by omega), if_neg (by omega), if_neg (by omega)]; exact h4
    · rw [if_neg (by omega), if_neg (by omega), if_neg (by omega), if_neg (by omega), if_neg (by omega), if_neg (by omega), if_neg (by omega)]; exact h5
    · rw [if_neg (by omega), if_neg (by omega), if_neg (by omega), if_neg (by omega), if_neg (by omega), if_neg (by omega), if_neg (by omega)]; exact h6
theorem CpsFillO.own {wr : World} {B : Nat} {Xl : List Cp} {k : Nat} {c : Nat → Nat} (h : CpsFillO wr B Xl k c) (hk : k = Xl.length) (hne : Xl ≠ []) (hm : Xl.length ≤ maxLen) : CpsOwn B wr.heap.size wr (.slice (some ⟨B, 0, none⟩) Xl.length Xl.length) Xl := by
  subst hk
  obtain ⟨g1, g2, g3, f, hr, hall⟩ := h
  have h0 : 0 < Xl.length := List.length_pos_iff.2 hne
  refine Or.inr ⟨B, 0, Xl.length, c, fun i => if h : i < Xl.length then Xl[i] else Xl[0], rfl, hne, hm, Nat.le_refl _, fun i hi => by simp [hi], hr.lt, Nat.le_refl _, g1, hr.lt, g2, g3, fun i => hr.frozen i, fun i hi => ?_⟩
  obtain ⟨hz, h0, h1, h2, h3, h4, h5, h6⟩ := hall i hi hi
  simp only [hi, dif_pos]
  rw [Nat.zero_add]
  exact ⟨hz, ⟨by rw [hr.cell (by omega), h0], by rw [hr.cell (by omega), h1], by rw [hr.cell (by omega), h2], by rw [hr.cell (by omega), h3], by rw [hr.cell (by omega), h4], by rw [hr.cell (by omega), h5], by rw [hr.cell (by omega), h6]⟩⟩
theorem CpsFillO.new (w : World) (Xl : List Cp) (z : Array Value) : CpsFillO (w.alloc (.cells (madeCells z (Xl.length * 7)) 82)) w.heap.size Xl 0 (fun _ => w.heap.size + 1) := by
  refine ⟨Nat.lt_succ_self _, fun i hi => by omega, by simp, fun i => (madeCells z (Xl.length * 7)).getD i default, ?_, fun i _ h => by omega⟩
  have := World.rowIs_alloc w (madeCells z (Xl.length * 7)) 82 (fun i => (madeCells z (Xl.length * 7)).getD i default) (fun i hi => by simp [Array.getD, hi])
  rwa [size_madeCells] at this
set_option maxHeartbeats 4000000 in
theorem toCpsO_any (lo : Nat) (v : Value) (Xl : List Cp) (w : World) (hv : CpsAt lo w v Xl) (hn : CpsSmall Xl) :
    Calls Tryz.prog 19 #[v] w fun e w' => ∃ v', e = .returned v' ∧ Below w.heap.size w w' ∧ CpsOwn w.heap.size w'.heap.size w' v' Xl := by
  obtain ⟨i0, hi, hz0, hz1, hz2⟩ := info_parts Tryz.info82
  have HSM := hide hn.2
  have hn1 := hn.1
  clear hn
  by_cases hL : Xl = []
  · subst hL
    obtain ⟨a, cap, rfl⟩ := hv.form
    clear hv
    have hmk : ∀ u : World, (Instr.makeSlice 31 (.int .i64 0) (.int .i64 0)).run Tryz.prog u = .ok (.slice (some ⟨u.heap.size, 0, none⟩) 0 0) (u.alloc (.cells (madeCells (Value.cells (.agg #[.string ⟨#[]⟩, .int .i64 0, .int .i64 0, .int .i64 0, .int .i64 0, .bool false, .string ⟨#[]⟩])) 0) 82)) := fun u => by
      have h := run_make (P := Tryz.prog) u 31 82 i0 _ Tryz.underlying31 hi hz0 .i64 .i64 0 0 (by omega) (by omega) (by omega) (by omega)
      simpa [hz1] using h
    go_enter Tryz.func19, Tryz.ntmps19
    go_wp2
    go_loop [4] (fun i => i = .int .i64 0) (fun _ => 0)
    case atStart => rfl
    case round =>
      subst hrel
      go_wp2
      go_ret
      exact ⟨_, rfl, (Below.refl _ _).alloc (Nat.le_refl _) _, Or.inl ⟨_, _, rfl, rfl⟩⟩
  · obtain ⟨b, off, cap, rfl, hm, hbw, _, hc⟩ := hv.full hL
    clear hv
    have HM : Hid (Xl.length ≤ maxLen) := hm
    unfold maxLen at hm
    have hmk : ∀ u : World, (Instr.makeSlice 31 (.int .i64 (Xl.length : Int)) (.int .i64 (Xl.length : Int))).run Tryz.prog u = .ok (.slice (some ⟨u.heap.size, 0, none⟩) Xl.length Xl.length) (u.alloc (.cells (madeCells (Value.cells (.agg #[.string ⟨#[]⟩, .int .i64 0, .int .i64 0, .int .i64 0, .int .i64 0, .bool false, .string ⟨#[]⟩])) (Xl.length * 7)) 82)) := fun u => by
      have h := run_make (P := Tryz.prog) u 31 82 i0 _ Tryz.underlying31 hi hz0 .i64 .i64 Xl.length Xl.length (by omega) (by omega) (by rw [hz2]; omega) (by omega)
      rw [hz1] at h
      simpa using h
    clear hi hz0 hz1 hz2
    go_enter Tryz.func19, Tryz.ntmps19
    go_wp2
    clear hmk
    go_loopw [4] (fun i wr => ∃ (k : Nat) (c : Nat → Nat), i = .int .i64 k ∧ k ≤ Xl.length ∧ Below w.heap.size w wr ∧ CpsFillO wr w.heap.size Xl k c) (fun i _ => Xl.length - (intOf i).toNat)
    case atStart => exact ⟨0, _, rfl, by omega, (Below.refl _ _).alloc (Nat.le_refl _) _, CpsFillO.new w Xl _⟩
    case round =>
      obtain ⟨k, c, rfl, hk, hb, hf⟩ := hrel
      by_cases hlt : k < Xl.length
      · obtain ⟨hs, hc⟩ := hc k hlt
        have HB := hide hb
        have HF := hide hf
        have HSZ := hide hs
        obtain ⟨c0, c1, c2, c3, c4, c5, c6⟩ := hc.below hb hbw
        clear hc hb hf hs
        go_wp2_with fail
        refine (toCp_any _ _).mono ?_
        rintro e w1 ⟨rfl, hb1⟩
        have hf1 := HF.out.below hb1
        have hB : Hid (Below w.heap.size w w1) := HB.out.trans (hb1.mono HB.out.size)
        have HST := hide (hf1.step hlt HSZ.out w1.heap.size (Nat.le_trans HF.out.2.2.1 hb1.size) (Nat.le_refl _))
        have hfr := hf1.free
        obtain ⟨o0, ho0⟩ := hf1.there (k * 7) (by omega)
        obtain ⟨o1, ho1⟩ := hf1.there (k * 7 + 1) (by omega)
        obtain ⟨o2, ho2⟩ := hf1.there (k * 7 + 2) (by omega)
        obtain ⟨o3, ho3⟩ := hf1.there (k * 7 + 3) (by omega)
        obtain ⟨o4, ho4⟩ := hf1.there (k * 7 + 4) (by omega)
        obtain ⟨o5, ho5⟩ := hf1.there (k * 7 + 5) (by omega)
        obtain ⟨o6, ho6⟩ := hf1.there (k * 7 + 6) (by omega)
        clear hf1 hb1 HF HB c0 c1 c2 c3 c4 c5 c6
        go_wp2
        go_roundw
        case rel =>
          exact ⟨k + 1, _, by go_num, by omega, (((((((hB.out.setCell (Nat.le_refl _) _).setCell (Nat.le_refl _) _).setCell (Nat.le_refl _) _).setCell (Nat.le_refl _) _).setCell (Nat.le_refl _) _).setCell (Nat.le_refl _) _).setCell (Nat.le_refl _) _), HST.out⟩
        case measure => simp [intOf]; omega
      · have e : k = Xl.length := by omega
        go_wp2
        go_ret
        exact ⟨_, rfl, hb, hf.own e hL HM.out⟩
end Go.Proofs.YtpdlcccnlciecaaGreat
namespace Go.Proofs.YtpdlcccnlciecaaGreat
open Go.RowKit Go.Deep

def BesFillO (wr : World) (B : Nat) (Xl : List Be) (k : Nat) (c : Nat → Nat) : Prop :=
  B < c 0 ∧ (∀ i, i < k → c i ≤ c (i + 1)) ∧ c k ≤ wr.heap.size ∧ ∃ f, wr.rowIs B 80 (Xl.length * 2) f ∧ ∀ i (h : i < Xl.length), i < k → BeSize Xl[i] ∧ f (i * 2) = .string Xl[i].nm ∧ f (i * 2 + 1) = .bool Xl[i].dr
theorem BesFillO.le {wr : World} {B : Nat} {Xl : List Be} {k : Nat} {c : Nat → Nat} (h : BesFillO wr B Xl k c) {i : Nat} : ∀ {j : Nat}, i ≤ j → j ≤ k → c i ≤ c j := by
  intro j
  induction j with
  | zero => intro hij _; have : i = 0 := by omega
            subst this; exact Nat.le_refl _
  | succ j ih =>
    intro hij hjn
    by_cases e : i = j + 1
    · subst e; exact Nat.le_refl _
    · exact Nat.le_trans (ih (by omega) (by omega)) (h.2.1 j (by omega))
theorem BesFillO.below {wr w1 : World} {B : Nat} {Xl : List Be} {k : Nat} {c : Nat → Nat} (h : BesFillO wr B Xl k c) (hb : Below wr.heap.size wr w1) : BesFillO w1 B Xl k c := by
  obtain ⟨g1, g2, g3, f, hr, hall⟩ := h
  refine ⟨g1, g2, Nat.le_trans g3 hb.size, f, hr.of_block (hb.block B hr.lt), fun i hi hik => ?_⟩
  obtain ⟨hz, h0, h1⟩ := hall i hi hik
  exact ⟨hz, h0, h1⟩
theorem BesFillO.free {wr : World} {B : Nat} {Xl : List Be} {k : Nat} {c : Nat → Nat} (h : BesFillO wr B Xl k c) (i : Nat) : wr.frozen? ⟨B, i, none⟩ = false := by
  obtain ⟨_, _, _, f, hr, _⟩ := h
  exact hr.frozen i
theorem BesFillO.there {wr : World} {B : Nat} {Xl : List Be} {k : Nat} {c : Nat → Nat} (h : BesFillO wr B Xl k c) (i : Nat) (hi : i < Xl.length * 2) : ∃ v, wr.cell? ⟨B, i, none⟩ = some v := by
  obtain ⟨_, _, _, f, hr, _⟩ := h
  exact ⟨_, hr.cell hi⟩
theorem BesFillO.lt {wr : World} {B : Nat} {Xl : List Be} {k : Nat} {c : Nat → Nat} (h : BesFillO wr B Xl k c) : B < wr.heap.size := by
  obtain ⟨_, _, _, f, hr, _⟩ := h
  exact hr.lt
theorem BesFillO.step {w1 : World} {B : Nat} {Xl : List Be} {k : Nat} {c : Nat → Nat} (h : BesFillO w1 B Xl k c) (hk : k < Xl.length) (hz : BeSize Xl[k]) (d : Nat) (hd0 : c k ≤ d) (hd : d ≤ w1.heap.size) :
    BesFillO ((w1.setCell ⟨B, k * 2, none⟩ (.string Xl[k].nm)).setCell ⟨B, k * 2 + 1, none⟩ (.bool Xl[k].dr)) B Xl (k + 1) (fun j => if j ≤ k then c j else d) := by
  have hle := fun i (hi : i ≤ k) => h.le (i := 0) (j := i) (Nat.zero_le _) hi
  have hle2 := fun i (hi : i < k) => h.le (i := i + 1) (j := k) (by omega) (Nat.le_refl _)
  obtain ⟨g1, g2, g3, f, hr, hall⟩ := h
  have hts : Touch B (B + 1) w1 ((w1.setCell ⟨B, k * 2, none⟩ (.string Xl[k].nm)).setCell ⟨B, k * 2 + 1, none⟩ (.bool Xl[k].dr)) := (Touch.setB B _ _ _).trans (Touch.setB B _ _ _)
  refine ⟨by simpa using g1, fun i hi => ?_, ?_, _, ((hr.set _ _).set _ _), fun i hi hik => ?_⟩
  · dsimp only
    by_cases e : i = k
    · subst e; rw [if_pos (Nat.le_refl _), if_neg (by omega)]; exact hd0
    · rw [if_pos (by omega), if_pos (by omega)]; exact g2 i (by omega)
  · dsimp only; rw [if_neg (by omega)]; exact Nat.le_trans hd hts.size
  by_cases e : i = k
  · subst e
    have hb0 := hle i (Nat.le_refl _)
    exact ⟨hz, by simp, by simp⟩
  · have hb0 := hle i (by omega)
    obtain ⟨hz, h0, h1⟩ := hall i hi (by omega)
    refine ⟨hz, ?_, ?_⟩
    · rw [if_neg (by omega), if_neg (by omega)]; exact h0
    · rw [if_neg (by omega), if_neg (by omega)]; exact h1
theorem BesFillO.own {wr : World} {B : Nat} {Xl : List Be} {k : Nat} {c : Nat → Nat} (h : BesFillO wr B Xl k c) (hk : k = Xl.length) (hne : Xl ≠ []) (hm : Xl.length ≤ maxLen) : BesOwn B wr.heap.size wr (.slice (some ⟨B, 0, none⟩) Xl.length Xl.length) Xl := by
  subst hk
  obtain ⟨g1, g2, g3, f, hr, hall⟩ := h
  have h0 : 0 < Xl.length := List.length_pos_iff.2 hne
  refine Or.inr ⟨B, 0, Xl.length, c, fun i => if h : i < Xl.length then Xl[i] else Xl[0], rfl, hne, hm, Nat.le_refl _, fun i hi => by simp [hi], hr.lt, Nat.le_refl _, g1, hr.lt, g2, g3, fun i => hr.frozen i, fun i hi => ?_⟩
  obtain ⟨hz, h0, h1⟩ := hall i hi hi
  simp only [hi, dif_pos]
  rw [Nat.zero_add]
  exact ⟨hz, ⟨by rw [hr.cell (by omega), h0], by rw [hr.cell (by omega), h1]⟩⟩
theorem BesFillO.new (w : World) (Xl : List Be) (z : Array Value) : BesFillO (w.alloc (.cells (madeCells z (Xl.length * 2)) 80)) w.heap.size Xl 0 (fun _ => w.heap.size + 1) := by
  refine ⟨Nat.lt_succ_self _, fun i hi => by omega, by simp, fun i => (madeCells z (Xl.length * 2)).getD i default, ?_, fun i _ h => by omega⟩
  have := World.rowIs_alloc w (madeCells z (Xl.length * 2)) 80 (fun i => (madeCells z (Xl.length * 2)).getD i default) (fun i hi => by simp [Array.getD, hi])
  rwa [size_madeCells] at this
set_option maxHeartbeats 4000000 in
theorem toBesO_any (lo : Nat) (v : Value) (Xl : List Be) (w : World) (hv : BesAt lo w v Xl) (hn : BesSmall Xl) :
    Calls Tryz.prog 20 #[v] w fun e w' => ∃ v', e = .returned v' ∧ Below w.heap.size w w' ∧ BesOwn w.heap.size w'.heap.size w' v' Xl := by
  obtain ⟨i0, hi, hz0, hz1, hz2⟩ := info_parts Tryz.info80
  have HSM := hide hn.2
  have hn1 := hn.1
  clear hn
  by_cases hL : Xl = []
  · subst hL
    obtain ⟨a, cap, rfl⟩ := hv.form
    clear hv
    have hmk : ∀ u : World, (Instr.makeSlice 32 (.int .i64 0) (.int .i64 0)).run Tryz.prog u = .ok (.slice (some ⟨u.heap.size, 0, none⟩) 0 0) (u.alloc (.cells (madeCells (Value.cells (.agg #[.string ⟨#[]⟩, .bool false])) 0) 80)) := fun u => by
      have h := run_make (P := Tryz.prog) u 32 80 i0 _ Tryz.underlying32 hi hz0 .i64 .i64 0 0 (by omega) (by omega) (by omega) (by omega)
      simpa [hz1] using h
    go_enter Tryz.func20, Tryz.ntmps20
    go_wp2
    go_loop [4] (fun i => i = .int .i64 0) (fun _ => 0)
    case atStart => rfl
    case round =>
      subst hrel
      go_wp2
      go_ret
      exact ⟨_, rfl, (Below.refl _ _).alloc (Nat.le_refl _) _, Or.inl ⟨_, _, rfl, rfl⟩⟩
  · obtain ⟨b, off, cap, rfl, hm, hbw, _, hc⟩ := hv.full hL
    clear hv
    have HM : Hid (Xl.length ≤ maxLen) := hm
    unfold maxLen at hm
    have hmk : ∀ u : World, (Instr.makeSlice 32 (.int .i64 (Xl.length : Int)) (.int .i64 (Xl.length : Int))).run Tryz.prog u = .ok (.slice (some ⟨u.heap.size, 0, none⟩) Xl.length Xl.length) (u.alloc (.cells (madeCells (Value.cells (.agg #[.string ⟨#[]⟩, .bool false])) (Xl.length * 2)) 80)) := fun u => by
      have h := run_make (P := Tryz.prog) u 32 80 i0 _ Tryz.underlying32 hi hz0 .i64 .i64 Xl.length Xl.length (by omega) (by omega) (by rw [hz2]; omega) (by omega)
      rw [hz1] at h
      simpa using h
    clear hi hz0 hz1 hz2
    go_enter Tryz.func20, Tryz.ntmps20
    go_wp2
    clear hmk
    go_loopw [4] (fun i wr => ∃ (k : Nat) (c : Nat → Nat), i = .int .i64 k ∧ k ≤ Xl.length ∧ Below w.heap.size w wr ∧ BesFillO wr w.heap.size Xl k c) (fun i _ => Xl.length - (intOf i).toNat)
    case atStart => exact ⟨0, _, rfl, by omega, (Below.refl _ _).alloc (Nat.le_refl _) _, BesFillO.new w Xl _⟩
    case round =>
      obtain ⟨k, c, rfl, hk, hb, hf⟩ := hrel
      by_cases hlt : k < Xl.length
      · obtain ⟨hs, hc⟩ := hc k hlt
        have HB := hide hb
        have HF := hide hf
        have HSZ := hide hs
        obtain ⟨c0, c1⟩ := hc.below hb hbw
        clear hc hb hf hs
        go_wp2_with fail
        refine (toBe_any _ _).mono ?_
        rintro e w1 ⟨rfl, hb1⟩
        have hf1 := HF.out.below hb1
        have hB : Hid (Below w.heap.size w w1) := HB.out.trans (hb1.mono HB.out.size)
        have HST := hide (hf1.step hlt HSZ.out w1.heap.size (Nat.le_trans HF.out.2.2.1 hb1.size) (Nat.le_refl _))
        have hfr := hf1.free
        obtain ⟨o0, ho0⟩ := hf1.there (k * 2) (by omega)
        obtain ⟨o1, ho1⟩ := hf1.there (k * 2 + 1) (by omega)
        clear hf1 hb1 HF HB c0 c1
        go_wp2
        go_roundw
        case rel =>
          exact ⟨k + 1, _, by go_num, by omega, ((hB.out.setCell (Nat.le_refl _) _).setCell (Nat.le_refl _) _), HST.out⟩
        case measure => simp [intOf]; omega
      · have e : k = Xl.length := by omega
        go_wp2
        go_ret
        exact ⟨_, rfl, hb, hf.own e hL HM.out⟩
end Go.Proofs.YtpdlcccnlciecaaGreat
namespace Go.Proofs.YtpdlcccnlciecaaGreat
open Go.RowKit Go.Deep

theorem SvsOwn.setLow {lo hi : Nat} {w : World} {v : Value} {Xl : List Sv} (h : SvsOwn lo hi w v Xl) {p : Addr} (hp : p.block < lo) (u : Value) : SvsOwn lo hi (w.setCell p u) v Xl := h.touch (Touch.setCell p.block (p.block + 1) w p u ⟨Nat.le_refl _, Nat.lt_succ_self _⟩) (Or.inr hp)
theorem CpsOwn.setLow {lo hi : Nat} {w : World} {v : Value} {Xl : List Cp} (h : CpsOwn lo hi w v Xl) {p : Addr} (hp : p.block < lo) (u : Value) : CpsOwn lo hi (w.setCell p u) v Xl := h.touch (Touch.setCell p.block (p.block + 1) w p u ⟨Nat.le_refl _, Nat.lt_succ_self _⟩) (Or.inr hp)
theorem BesOwn.setLow {lo hi : Nat} {w : World} {v : Value} {Xl : List Be} (h : BesOwn lo hi w v Xl) {p : Addr} (hp : p.block < lo) (u : Value) : BesOwn lo hi (w.setCell p u) v Xl := h.touch (Touch.setCell p.block (p.block + 1) w p u ⟨Nat.le_refl _, Nat.lt_succ_self _⟩) (Or.inr hp)

section
variable (lo : Nat) (sv cv bv : Value) (B : Sb) (w : World)

set_option maxHeartbeats 8000000 in
theorem toSbO_any (h : SbAt lo w sv cv bv B) (hn : SbSmall B) :
    Calls Tryz.prog 6 #[.agg #[.int .i64 B.now, sv, cv, bv]] w
      fun e w' => ∃ b0 m0 b1 m1 b2 m2, e = .returned (.agg #[.int .i64 B.now, .slice b0 B.ss.length m0, .slice b1 B.cs.length m1, .slice b2 B.bs.length m2]) ∧ Below w.heap.size w w' ∧ SbOwn w.heap.size w'.heap.size w' (.slice b0 B.ss.length m0) (.slice b1 B.cs.length m1) (.slice b2 B.bs.length m2) B := by
  have HL := hide h
  obtain ⟨a0, k0, rfl⟩ := h.svs.form
  obtain ⟨a1, k1, rfl⟩ := h.cps.form
  obtain ⟨a2, k2, rfl⟩ := h.bes.form
  obtain ⟨hn0, hn1, hn2⟩ := hn
  clear h
  go_enter Tryz.func6, Tryz.ntmps6
  go_wp2_with fail
  obtain ⟨wz, hwz, HX0, HR0, HO0, HB0⟩ : ∃ wz, wz = ((w.alloc (.cells #[.int .i64 B.now, .slice a0 B.ss.length k0, .slice a1 B.cs.length k1, .slice a2 B.bs.length k2] 26)).alloc (.cells #[.int .i64 0, .slice none 0 0, .slice none 0 0, .slice none 0 0] 34)).alloc (.cells #[.int .i64 B.now, .slice none 0 0, .slice none 0 0, .slice none 0 0] 34) ∧
      Hid (Box wz w.heap.size #[.int .i64 B.now, .slice a0 B.ss.length k0, .slice a1 B.cs.length k1, .slice a2 B.bs.length k2]) ∧ Hid (Box wz (w.heap.size + 1) #[.int .i64 0, .slice none 0 0, .slice none 0 0, .slice none 0 0]) ∧ Hid (Box wz (w.heap.size + 1 + 1) #[.int .i64 B.now, .slice none 0 0, .slice none 0 0, .slice none 0 0]) ∧ Hid (Below w.heap.size w wz) :=
    ⟨_, rfl, ((Box.new w _ _ _ rfl).on (one_al _ _)).on (one_al _ _), (Box.new _ _ _ _ (by simp)).on (one_al _ _), Box.new _ _ _ _ (by simp), ((one_al _ _).trans ((one_al _ _).mono (by simp))).trans ((one_al _ _).mono (by simp; omega))⟩
  rw [← hwz]
  clear hwz
  generalize wz = v0 at *
  have hz0 : w.heap.size + 3 ≤ v0.heap.size := by have := HO0.out.lt; omega
  refine (toSvsO_any lo _ B.ss _ (HL.out.below HB0.out).svs hn0).mono ?_
  rintro e w0 ⟨u0, rfl, hb0, hs0⟩
  obtain ⟨b0, m0, rfl⟩ := hs0.form
  have GX := hide (HX0.out.on hb0)
  have GR := hide (HR0.out.on hb0)
  have GO := hide (HO0.out.on hb0)
  have GB := hide (HB0.out.trans (hb0.mono HB0.out.size))
  have GN := hide hs0
  have hsz0 := hb0.size
  clear hb0 hs0 HX0 HR0 HO0 HB0
  have o0 := GO.out.cell 1
  have f0 := GO.out.free 1
  have x1 := GX.out.cell 2
  simp at o0 f0 x1
  go_wp2_with fail
  clear o0 f0 x1
  obtain ⟨v1, hwq, HX1, HR1, HO1, HB1, hq1, HS0⟩ : ∃ wq, wq = w0.setCell ⟨w.heap.size + 1 + 1, 1, none⟩ (.slice b0 B.ss.length m0) ∧
      Hid (Box wq w.heap.size #[.int .i64 B.now, .slice a0 B.ss.length k0, .slice a1 B.cs.length k1, .slice a2 B.bs.length k2]) ∧ Hid (Box wq (w.heap.size + 1) #[.int .i64 0, .slice none 0 0, .slice none 0 0, .slice none 0 0]) ∧ Hid (Box wq (w.heap.size + 1 + 1) #[.int .i64 B.now, .slice b0 B.ss.length m0, .slice none 0 0, .slice none 0 0]) ∧ Hid (Below w.heap.size w wq) ∧ wq.heap.size = w0.heap.size ∧ Hid (SvsOwn v0.heap.size w0.heap.size wq (.slice b0 B.ss.length m0) B.ss) :=
    ⟨_, rfl, GX.out.setFar (by simp only []; omega) _, GR.out.setFar (by simp only []; omega) _, GO.out.set (k := 1) (.slice b0 B.ss.length m0) (by simp), GB.out.setCell (by simp only []; omega) _, by simp [World.setCell], GN.out.setLow (by simp only []; omega) _⟩
  rw [← hwq]
  clear hwq GX GR GO GB GN
  have hz1 : w.heap.size + 3 ≤ v1.heap.size := by omega
  refine (toCpsO_any lo _ B.cs _ (HL.out.below HB1.out).cps hn1).mono ?_
  rintro e w1 ⟨u1, rfl, hb1, hs1⟩
  obtain ⟨b1, m1, rfl⟩ := hs1.form
  have GX := hide (HX1.out.on hb1)
  have GR := hide (HR1.out.on hb1)
  have GO := hide (HO1.out.on hb1)
  have GB := hide (HB1.out.trans (hb1.mono HB1.out.size))
  have GN := hide hs1
  have hsz1 := hb1.size
  have G0 := hide (HS0.out.below hb1)
  clear hb1 hs1 HX1 HR1 HO1 HB1 HS0
  have o0 := GO.out.cell 2
  have f0 := GO.out.free 2
  have x1 := GX.out.cell 3
  simp at o0 f0 x1
  go_wp2_with fail
  clear o0 f0 x1
  obtain ⟨v2, hwq, HX2, HR2, HO2, HB2, hq2, HS1, HS0⟩ : ∃ wq, wq = w1.setCell ⟨w.heap.size + 1 + 1, 2, none⟩ (.slice b1 B.cs.length m1) ∧
      Hid (Box wq w.heap.size #[.int .i64 B.now, .slice a0 B.ss.length k0, .slice a1 B.cs.length k1, .slice a2 B.bs.length k2]) ∧ Hid (Box wq (w.heap.size + 1) #[.int .i64 0, .slice none 0 0, .slice none 0 0, .slice none 0 0]) ∧ Hid (Box wq (w.heap.size + 1 + 1) #[.int .i64 B.now, .slice b0 B.ss.length m0, .slice b1 B.cs.length m1, .slice none 0 0]) ∧ Hid (Below w.heap.size w wq) ∧ wq.heap.size = w1.heap.size ∧ Hid (CpsOwn v1.heap.size w1.heap.size wq (.slice b1 B.cs.length m1) B.cs) ∧ Hid (SvsOwn v0.heap.size w0.heap.size wq (.slice b0 B.ss.length m0) B.ss) :=
    ⟨_, rfl, GX.out.setFar (by simp only []; omega) _, GR.out.setFar (by simp only []; omega) _, GO.out.set (k := 2) (.slice b1 B.cs.length m1) (by simp), GB.out.setCell (by simp only []; omega) _, by simp [World.setCell], GN.out.setLow (by simp only []; omega) _, G0.out.setLow (by simp only []; omega) _⟩
  rw [← hwq]
  clear hwq GX GR GO GB GN G0
  have hz2 : w.heap.size + 3 ≤ v2.heap.size := by omega
  refine (toBesO_any lo _ B.bs _ (HL.out.below HB2.out).bes hn2).mono ?_
  rintro e w2 ⟨u2, rfl, hb2, hs2⟩
  obtain ⟨b2, m2, rfl⟩ := hs2.form
  have GX := hide (HX2.out.on hb2)
  have GR := hide (HR2.out.on hb2)
  have GO := hide (HO2.out.on hb2)
  have GB := hide (HB2.out.trans (hb2.mono HB2.out.size))
  have GN := hide hs2
  have hsz2 := hb2.size
  have G0 := hide (HS0.out.below hb2)
  have G1 := hide (HS1.out.below hb2)
  clear hb2 hs2 HX2 HR2 HO2 HB2 HS0 HS1
  have o0 := GO.out.cell 0
  have o1 := GO.out.cell 1
  have o2 := GO.out.cell 2
  have o3 := GO.out.cell 3
  have f6 := GO.out.free 3
  have r0 := GR.out.cell 0
  have g0 := GR.out.free 0
  have r1 := GR.out.cell 1
  have g1 := GR.out.free 1
  have r2 := GR.out.cell 2
  have g2 := GR.out.free 2
  have r3 := GR.out.cell 3
  have g3 := GR.out.free 3
  simp at o0 r0 o1 r1 o2 r2 o3 r3
  go_wp2
  refine bodyPost_ret (v := .agg #[.int .i64 B.now, .slice b0 B.ss.length m0, .slice b1 B.cs.length m1, .slice b2 B.bs.length m2]) (by simp [results, Tryz.results6, go_sem, r0, r1, r2, r3]) rfl ⟨_, _, _, _, _, _, rfl, ?_, v0.heap.size, w0.heap.size, v1.heap.size, w1.heap.size, v2.heap.size, w2.heap.size, ⟨?_, ?_, ?_, by omega, by omega, by omega⟩, ?_, ?_, ?_⟩
  · repeat (refine Below.setCell ?_ (by simp only []; omega) _)
    exact GB.out
  · simp [World.setCell]; omega
  · simp [World.setCell]; omega
  · simp [World.setCell]; omega
  · repeat (refine SvsOwn.setLow ?_ (by simp only []; omega) _)
    exact G0.out
  · repeat (refine CpsOwn.setLow ?_ (by simp only []; omega) _)
    exact G1.out
  · repeat (refine BesOwn.setLow ?_ (by simp only []; omega) _)
    exact GN.out
end
end Go.Proofs.YtpdlcccnlciecaaGreat
namespace Go.Proofs.YtpdlcccnlciecaaGreat
open Go.RowKit Go.Deep

/-- an act -/
structure Ac where
  sv : ByteArray
  sn : Int
  cr : Int
  wa : Int
  cl : Int
  sc : Bool
  es : List En
  dp : Bool
/-- an act in memory -/
structure AcAt (lo : Nat) (w : World) (ev : Value) (A : Ac) : Prop where
  ens : EnsAt lo w ev A.es
  siz : A.sv.size ≤ maxLen
theorem AcAt.below {lo : Nat} {w w' : World} {ev : Value} {A : Ac} (h : AcAt lo w ev A) (hb : Below w.heap.size w w') : AcAt lo w' ev A := ⟨h.ens.below hb, h.siz⟩
theorem AcAt.mono {lo lo' : Nat} {w : World} {ev : Value} {A : Ac} (h : AcAt lo w ev A) (hl : lo' ≤ lo) : AcAt lo' w ev A := ⟨h.ens.mono hl, h.siz⟩
def AcSmall (A : Ac) : Prop := EnsSmall A.es
/-- an act of one's own -/
structure AcOwn (lo hi : Nat) (w : World) (ev : Value) (A : Ac) : Prop where
  ens : EnsOwn lo hi w ev A.es
  siz : A.sv.size ≤ maxLen
theorem AcOwn.at {lo hi : Nat} {w : World} {ev : Value} {A : Ac} (h : AcOwn lo hi w ev A) : AcAt lo w ev A := ⟨h.ens.at, h.siz⟩
theorem AcOwn.below {lo hi : Nat} {w w' : World} {ev : Value} {A : Ac} (h : AcOwn lo hi w ev A) (hb : Below w.heap.size w w') : AcOwn lo hi w' ev A := ⟨h.ens.below hb, h.siz⟩
theorem AcOwn.touch {lo hi lo' hi' : Nat} {w w' : World} {ev : Value} {A : Ac} (h : AcOwn lo hi w ev A) (ht : Touch lo' hi' w w') (ho : hi ≤ lo' ∨ hi' ≤ lo) : AcOwn lo hi w' ev A := ⟨h.ens.touch ht ho, h.siz⟩
theorem EnsOwn.setLow {lo hi : Nat} {w : World} {v : Value} {Xl : List En} (h : EnsOwn lo hi w v Xl) {p : Addr} (hp : p.block < lo) (u : Value) : EnsOwn lo hi (w.setCell p u) v Xl := h.touch (Touch.setCell p.block (p.block + 1) w p u ⟨Nat.le_refl _, Nat.lt_succ_self _⟩) (Or.inr hp)

theorem EnsOwn.wide {lo hi lo' hi' : Nat} {w : World} {v : Value} {Xl : List En} (h : EnsOwn lo hi w v Xl) (h1 : lo' ≤ lo) (h2 : hi ≤ hi') : EnsOwn lo' hi' w v Xl := by
  rcases h with h | ⟨b, off, cap, c, X, e1, e2, e3, e4, e5, ⟨q1, q2, q3, q4, q5, q6, q7, q8⟩⟩
  · exact Or.inl h
  · exact Or.inr ⟨b, off, cap, c, X, e1, e2, e3, e4, e5, ⟨q1, Nat.le_trans h1 q2, q3, Nat.lt_of_lt_of_le q4 h2, q5, Nat.le_trans q6 h2, q7, q8⟩⟩

section
variable (lo : Nat) (ev : Value) (A : Ac) (w : World)

set_option maxRecDepth 20000 in
set_option maxHeartbeats 2000000 in
theorem eqAc_same (lo' : Nat) (ev' : Value) (h : AcAt lo w ev A) (h' : AcAt lo' w ev' A) :
    Calls Tryz.prog 24 #[.agg #[.string A.sv, .int .i64 A.sn, .int .i64 A.cr, .int .i64 A.wa, .int .i64 A.cl, .bool A.sc, ev, .bool A.dp], .agg #[.string A.sv, .int .i64 A.sn, .int .i64 A.cr, .int .i64 A.wa, .int .i64 A.cl, .bool A.sc, ev', .bool A.dp]] w
      fun e w' => e = .returned (.bool true) ∧ Below w.heap.size w w' := by
  have HL := hide h
  have HR := hide h'
  obtain ⟨a0, k0, rfl⟩ := h.ens.form
  obtain ⟨a1, k1, rfl⟩ := h'.ens.form
  clear h h'
  have hr := bytes_refl A.sv
  go_enter Tryz.func24, Tryz.ntmps24
  go_wp2_with fail
  generalize hWa : World.alloc (w.alloc _) _ = Wa
  have HB0 : Hid (Below w.heap.size w Wa) := by rw [← hWa]; exact (one_al w _).alloc (by simp) _
  have FA : Hid (Box Wa w.heap.size #[.string A.sv, .int .i64 A.sn, .int .i64 A.cr, .int .i64 A.wa, .int .i64 A.cl, .bool A.sc, .slice a0 A.es.length k0, .bool A.dp]) := by rw [← hWa]; exact (Box.new _ _ _ _ rfl).on (one_al _ _)
  have FB : Hid (Box Wa (w.heap.size + 1) #[.string A.sv, .int .i64 A.sn, .int .i64 A.cr, .int .i64 A.wa, .int .i64 A.cl, .bool A.sc, .slice a1 A.es.length k1, .bool A.dp]) := by rw [← hWa]; exact Box.new _ _ _ _ (by simp)
  clear hWa
  refine (eqEns_same lo lo' _ _ A.es _ (HL.out.below HB0.out).ens (HR.out.below HB0.out).ens).mono ?_
  rintro e w1 ⟨rfl, hb1⟩
  have HB1 := hide (bt HB0.out hb1)
  have x := (FA.out.on hb1).cell 7
  have y := (FB.out.on hb1).cell 7
  simp at x y
  clear hb1
  go_wp2
  go_ret
  exact ⟨rfl, HB1.out⟩

end
end Go.Proofs.YtpdlcccnlciecaaGreat
namespace Go.Proofs.YtpdlcccnlciecaaGreat
open Go.RowKit Go.Deep

/-- how two texts stand to each other -/
def cmpS (a b : ByteArray) : Int := if Op.bytesLess a.toList b.toList = true then -1 else if (a.toList == b.toList) = true then 0 else 1
theorem less_irrefl (a : List UInt8) : Op.bytesLess a a = false := by rw [bytesLess_eq]; exact decide_eq_false (List.lt_irrefl _)
theorem less_asymm {a b : List UInt8} (h : Op.bytesLess a b = true) : Op.bytesLess b a = false := by
  rw [bytesLess_eq] at h ⊢
  exact decide_eq_false (fun h' => List.lt_irrefl _ (List.lt_trans (of_decide_eq_true h) h'))
theorem less_trans {a b c : List UInt8} (h : Op.bytesLess a b = true) (h' : Op.bytesLess b c = true) : Op.bytesLess a c = true := by
  rw [bytesLess_eq] at h h' ⊢
  exact decide_eq_true (List.lt_trans (of_decide_eq_true h) (of_decide_eq_true h'))
theorem less_tri {a b : List UInt8} (h : Op.bytesLess a b = false) (h' : Op.bytesLess b a = false) : a = b := by
  rw [bytesLess_eq] at h h'
  exact List.le_antisymm (List.not_lt.1 (of_decide_eq_false h')) (List.not_lt.1 (of_decide_eq_false h))
theorem toList_inj {a b : ByteArray} (h : a.toList = b.toList) : a = b := bytes_eq.1 (by rw [h]; simp)
theorem cmpS_self (a : ByteArray) : cmpS a a = 0 := by unfold cmpS; simp [less_irrefl]
theorem cmpS_zero {a b : ByteArray} : cmpS a b = 0 ↔ a = b := by
  refine ⟨fun h => ?_, fun h => by rw [h]; exact cmpS_self _⟩
  unfold cmpS at h
  split at h
  · omega
  · split at h
    · rename_i h2
      exact bytes_eq.1 h2
    · omega
theorem cmpS_neg {a b : ByteArray} : cmpS a b < 0 ↔ Op.bytesLess a.toList b.toList = true := by
  unfold cmpS
  split
  · rename_i h; simp [h]
  · rename_i h
    split <;> simp [h]
theorem cmpS_pos {a b : ByteArray} : 0 < cmpS a b ↔ Op.bytesLess b.toList a.toList = true := by
  unfold cmpS
  split
  · rename_i h; simp [less_asymm h]
  · rename_i h
    split
    · rename_i h2
      rw [bytes_eq.1 h2]; simp [less_irrefl]
    · rename_i h2
      have : Op.bytesLess b.toList a.toList = true := by
        cases h3 : Op.bytesLess b.toList a.toList with
        | true => rfl
        | false => exact absurd (bytes_eq.2 (toList_inj (less_tri (by simpa using h) h3))) h2
      simp [this]
theorem cmpS_bd (a b : ByteArray) : -1 ≤ cmpS a b ∧ cmpS a b ≤ 1 := by unfold cmpS; split <;> (try split) <;> omega
/-- the first that is not 0 -/
def orI (a b : Int) : Int := if a = 0 then b else a
theorem orI_zero {a b : Int} : orI a b = 0 ↔ a = 0 ∧ b = 0 := by unfold orI; split <;> omega
theorem orI_bd {a b : Int} (h : -1 ≤ a ∧ a ≤ 1) (h' : -1 ≤ b ∧ b ≤ 1) : -1 ≤ orI a b ∧ orI a b ≤ 1 := by unfold orI; split <;> omega

theorem nanS_any (a : ByteArray) (w : World) : Calls Tryz.prog 134 #[.string a] w fun e w' => e = .returned (.bool false) ∧ w' = w := by
  have h := bytes_refl a
  go_enter Tryz.func134, Tryz.ntmps134
  go_wp2
  go_ret
  exact ⟨rfl, rfl⟩
set_option maxHeartbeats 400000 in
theorem cmpStr_any (a b : ByteArray) (w : World) :
    Calls Tryz.prog 114 #[.string a, .string b] w fun e w' => e = .returned (.int .i64 (cmpS a b)) ∧ w' = w := by
  cases h1 : Op.bytesLess a.toList b.toList with
  | true =>
    have HE : Hid (cmpS a b = -1) := by unfold Hid cmpS; rw [h1]; rfl
    go_enter Tryz.func114, Tryz.ntmps114
    go_wp2_with (go_at_call 134; refine (nanS_any _ _).mono ?_; rintro e w' ⟨rfl, rfl⟩)
    go_ret
    exact ⟨ret_int HE.out.symm, rfl⟩
  | false =>
    cases h2 : (a.toList == b.toList) with
    | true =>
      have HE : Hid (cmpS a b = 0) := by unfold Hid cmpS; rw [h1, h2]; rfl
      go_enter Tryz.func114, Tryz.ntmps114
      go_wp2_with (go_at_call 134; refine (nanS_any _ _).mono ?_; rintro e w' ⟨rfl, rfl⟩)
      go_ret
      exact ⟨ret_int HE.out.symm, rfl⟩
    | false =>
      have HE : Hid (cmpS a b = 1) := by unfold Hid cmpS; rw [h1, h2]; rfl
      go_enter Tryz.func114, Tryz.ntmps114
      go_wp2_with (go_at_call 134; refine (nanS_any _ _).mono ?_; rintro e w' ⟨rfl, rfl⟩)
      go_ret
      exact ⟨ret_int HE.out.symm, rfl⟩

/-- the first of a list that is not 0 -/
def orL : List Int → Int
  | [] => 0
  | x :: r => if x = 0 then orL r else x
theorem orL_skip {L : List Int} {k : Nat} (hk : k < L.length) (h : L[k] = 0) : orL (L.drop k) = orL (L.drop (k + 1)) := by
  rw [List.drop_eq_getElem_cons hk, orL, if_pos h]
theorem orL_stop {L : List Int} {k : Nat} (hk : k < L.length) (h : L[k] ≠ 0) : orL (L.drop k) = L[k] := by
  rw [List.drop_eq_getElem_cons hk, orL, if_neg h]

theorem orL_two (a b : Int) : orL [a, b] = orI a b := by simp only [orL]; unfold orI; split <;> (try split) <;> omega
set_option maxHeartbeats 400000 in
theorem cmpOr_any (w : World) (b off cap : Nat) (L : List Int) (hm : L.length ≤ 1000) (hc : ∀ i (h : i < L.length), w.cell? ⟨b, off + i, none⟩ = some (.int .i64 L[i])) :
    Calls Tryz.prog 121 #[.slice (some ⟨b, off, none⟩) L.length cap] w fun e w' => e = .returned (.int .i64 (orL L)) ∧ w' = w := by
  go_enter Tryz.func121, Tryz.ntmps121
  go_wp2
  go_loop [8] (fun i => ∃ k : Nat, i = .int .i64 k ∧ k ≤ L.length ∧ orL L = orL (L.drop k)) (fun i => L.length - (intOf i).toNat)
  case atStart => exact ⟨0, rfl, by omega, by simp⟩
  case round =>
    obtain ⟨k, rfl, hk, he⟩ := hrel
    have HE := hide he
    clear he
    by_cases hlt : k < L.length
    · have c := hc k hlt
      by_cases h0 : L[k] = 0
      · have HS := hide (orL_skip hlt h0)
        have h0' : (L[k] != 0) = false := by simp [h0]
        clear h0
        go_wp2
        go_round
        case rel => exact ⟨k + 1, by go_num, by omega, HE.out.trans HS.out⟩
        case measure => simp [intOf]; omega
      · have HS := hide (orL_stop hlt h0)
        have h0' : (L[k] != 0) = true := by simp [h0]
        clear h0
        go_wp2
        go_ret
        exact ⟨ret_int (by rw [HE.out, HS.out]), rfl⟩
    · have HS : Hid (orL (L.drop k) = 0) := by unfold Hid; rw [List.drop_of_length_le (by omega)]; rfl
      go_wp2
      go_ret
      exact ⟨ret_int (by rw [HE.out, HS.out]), rfl⟩

def cmpI (a b : Int) : Int := if a < b then -1 else if b < a then 1 else 0
theorem cmpI_neg {a b : Int} : cmpI a b < 0 ↔ a < b := by unfold cmpI; split <;> (try split) <;> omega
theorem nanI_any (a : Int) (w : World) : Calls Tryz.prog 136 #[.int .i64 a] w fun e w' => e = .returned (.bool false) ∧ w' = w := by
  go_enter Tryz.func136, Tryz.ntmps136
  go_wp2
  go_ret
  exact ⟨rfl, rfl⟩
set_option maxHeartbeats 400000 in
theorem cmpInt_any (a b : Int) (w : World) :
    Calls Tryz.prog 122 #[.int .i64 a, .int .i64 b] w fun e w' => e = .returned (.int .i64 (cmpI a b)) ∧ w' = w := by
  by_cases h1 : a < b
  · have HE : Hid (cmpI a b = -1) := if_pos h1
    go_enter Tryz.func122, Tryz.ntmps122
    go_wp2_with (go_at_call 136; refine (nanI_any _ _).mono ?_; rintro e w' ⟨rfl, rfl⟩)
    go_ret
    exact ⟨ret_int HE.out.symm, rfl⟩
  · by_cases h2 : b < a
    · have HE : Hid (cmpI a b = 1) := by unfold Hid cmpI; rw [if_neg h1, if_pos h2]
      go_enter Tryz.func122, Tryz.ntmps122
      go_wp2_with (go_at_call 136; refine (nanI_any _ _).mono ?_; rintro e w' ⟨rfl, rfl⟩)
      go_ret
      exact ⟨ret_int HE.out.symm, rfl⟩
    · have HE : Hid (cmpI a b = 0) := by unfold Hid cmpI; rw [if_neg h1, if_neg h2]
      go_enter Tryz.func122, Tryz.ntmps122
      go_wp2_with (go_at_call 136; refine (nanI_any _ _).mono ?_; rintro e w' ⟨rfl, rfl⟩)
      go_ret
      exact ⟨ret_int HE.out.symm, rfl⟩
theorem within_any (n lo hi : Int) (w : World) :
    Calls Tryz.prog 22 #[.int .i64 n, .int .i64 lo, .int .i64 hi] w fun e w' => e = .returned (.bool (inB lo hi n)) ∧ w' = w := by
  rw [inB_eq]
  by_cases h : lo ≤ n
  · by_cases h2 : n ≤ hi
    · go_enter Tryz.func22, Tryz.ntmps22
      go_wp2
      go_ret
      exact ⟨by rw [decide_eq_true h, decide_eq_true h2]; rfl, rfl⟩
    · go_enter Tryz.func22, Tryz.ntmps22
      go_wp2
      go_ret
      exact ⟨by simp [h2], rfl⟩
  · go_enter Tryz.func22, Tryz.ntmps22
    go_wp2
    go_ret
    exact ⟨by rw [decide_eq_false (show ¬ lo ≤ n by omega)]; rfl, rfl⟩

set_option maxHeartbeats 400000 in
theorem nameBytes_any (s : ByteArray) (w : World) (hs : s.size ≤ maxLen) :
    Calls Tryz.prog 142 #[.string s] w fun e w' => e = .returned (.bool (allB nameByte s)) ∧ w' = w := by
  unfold maxLen at hs
  go_enter Tryz.func142, Tryz.ntmps142
  go_wp2
  go_loop [7] (fun i => ∃ k : Nat, k ≤ s.size ∧ i = .int .i64 k ∧ (s.data.toList.take k).all nameByte = true) (fun i => s.size - (intOf i).toNat)
  case atStart => exact ⟨0, Nat.zero_le _, rfl, rfl⟩
  case round =>
    obtain ⟨k, hk, rfl, hall⟩ := hrel
    have HA : Hid ((s.data.toList.take k).all nameByte = true) := hall
    clear hall
    by_cases hlt : k < s.size
    · have hsn := nameByte_iff s[k]
      have HS : Hid (nameByte s[k] = true ↔ (97 ≤ (s[k].toNat : Int) ∧ (s[k].toNat : Int) ≤ 122 ∨ 48 ≤ (s[k].toNat : Int) ∧ (s[k].toNat : Int) ≤ 57 ∨ (s[k].toNat : Int) = 45)) := hsn
      clear hsn
      go_wp2
      all_goals try simp only [bne_iff_ne, ne_eq, bne_eq_false_iff_eq] at *
      all_goals first
        | (go_round
           case rel => exact ⟨k + 1, by omega, by go_num, all_step HA.out hlt (HS.out.2 (by omega))⟩
           case measure => simp [intOf]; omega)
        | (go_ret
           exact ⟨ret_bool (all_stop hlt (Bool.eq_false_iff.2 fun h => by have := HS.out.1 h; omega)).symm, rfl⟩)
    · go_wp2
      go_ret
      exact ⟨ret_bool (all_end HA.out (by omega)).symm, rfl⟩

set_option maxHeartbeats 400000 in
theorem isName_any (s : ByteArray) (w : World) (hs : s.size ≤ maxLen) :
    Calls Tryz.prog 135 #[.string s] w fun e w' => e = .returned (.bool (nmB s)) ∧ w' = w := by
  have hk := nameBytes_any s w hs
  unfold maxLen at hs
  by_cases h1 : 1 ≤ (s.size : Int)
  · by_cases h2 : (s.size : Int) ≤ 20
    · have HB : Hid (nmB s = allB nameByte s) := by unfold Hid nmB inB; simp; intro h; omega
      go_enter Tryz.func135, Tryz.ntmps135
      go_wp2_with (go_at_call 142; refine hk.mono ?_; rintro e w' ⟨rfl, rfl⟩)
      go_ret
      exact ⟨ret_bool HB.out.symm, rfl⟩
    · have HB : Hid (nmB s = false) := by unfold Hid nmB inB; simp; intro h; omega
      go_enter Tryz.func135, Tryz.ntmps135
      go_wp2
      go_ret
      exact ⟨ret_bool HB.out.symm, rfl⟩
  · have HB : Hid (nmB s = false) := by unfold Hid nmB inB; simp; intro h; omega
    go_enter Tryz.func135, Tryz.ntmps135
    go_wp2
    go_ret
    exact ⟨ret_bool HB.out.symm, rfl⟩

end Go.Proofs.YtpdlcccnlciecaaGreat
