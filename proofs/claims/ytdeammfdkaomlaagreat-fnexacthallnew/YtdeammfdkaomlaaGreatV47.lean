import Derived.Test.YtdeammfdkaomlaaGreatV42
import Derived.Deep.MidRow
namespace Go.Proofs.YtdeammfdkaomlaaGreat
open Go.RowKit Go.Deep

theorem RrC.sets {lo b : Nat} (hb : b < lo) {cs : List Value} {x : Rr} : ∀ (vs : List Value) (o : Nat) {w : World}, RrC lo w cs x → RrC lo (w.setCells b o vs) cs x
  | [], _, _, h => h
  | v :: vs, o, _, h => RrC.sets hb vs (o + 1) (h.set hb v)
theorem Rr_sizeI : (Tryz.prog.info? 61).map (·.size) = some 18 := by kernel_rfl
/-- a list of them in memory, all of it above lo -/
def RrsAt (lo : Nat) (w : World) (v : Value) (Xl : List Rr) : Prop :=
  (∃ (a : Option Addr) (cap : Nat), v = .slice a 0 cap ∧ Xl = []) ∨
  ∃ (b off cap : Nat), v = .slice (some ⟨b, off, none⟩) Xl.length cap ∧ Xl ≠ [] ∧ Xl.length ≤ maxLen ∧ b < w.heap.size ∧ lo ≤ b ∧ Xl.length ≤ cap ∧
    ∀ i (h : i < Xl.length), ∃ cs, w.rangeAt b (off + i * 18) cs ∧ RrC lo w cs Xl[i]
theorem RrsAt.below {lo : Nat} {w w' : World} {v : Value} {Xl : List Rr} (h : RrsAt lo w v Xl) (hb : Below w.heap.size w w') : RrsAt lo w' v Xl := by
  rcases h with h | ⟨b, off, cap, h1, h2, h3, h4, h5, h6, h7⟩
  · exact Or.inl h
  · refine Or.inr ⟨b, off, cap, h1, h2, h3, Nat.lt_of_lt_of_le h4 hb.size, h5, h6, fun i hi => ?_⟩
    obtain ⟨cs, hr, hc⟩ := h7 i hi
    exact ⟨cs, rng_below hr hb h4, hc.below hb⟩
theorem RrsAt.mono {lo lo' : Nat} {w : World} {v : Value} {Xl : List Rr} (h : RrsAt lo w v Xl) (hl : lo' ≤ lo) : RrsAt lo' w v Xl := by
  rcases h with h | ⟨b, off, cap, h1, h2, h3, h4, h5, h6, h7⟩
  · exact Or.inl h
  · refine Or.inr ⟨b, off, cap, h1, h2, h3, h4, Nat.le_trans hl h5, h6, fun i hi => ?_⟩
    obtain ⟨cs, hr, hc⟩ := h7 i hi
    exact ⟨cs, hr, hc.mono hl⟩
theorem RrsAt.set {lo : Nat} {w : World} {v : Value} {Xl : List Rr} (h : RrsAt lo w v Xl) {p : Addr} (hp : p.block < lo) (u : Value) : RrsAt lo (w.setCell p u) v Xl := by
  rcases h with h | ⟨b, off, cap, h1, h2, h3, h4, h5, h6, h7⟩
  · exact Or.inl h
  · refine Or.inr ⟨b, off, cap, h1, h2, h3, by simpa [World.setCell] using h4, h5, h6, fun i hi => ?_⟩
    obtain ⟨cs, hr, hc⟩ := h7 i hi
    exact ⟨cs, rng_set hr (by omega) u, hc.set hp u⟩
theorem RrsAt.form {lo : Nat} {w : World} {v : Value} {Xl : List Rr} (h : RrsAt lo w v Xl) : ∃ a cap, v = .slice a Xl.length cap := by
  rcases h with ⟨a, cap, h, rfl⟩ | ⟨b, off, cap, h, _⟩
  · exact ⟨a, cap, h⟩
  · exact ⟨_, cap, h⟩
theorem RrsAt.max {lo : Nat} {w : World} {v : Value} {Xl : List Rr} (h : RrsAt lo w v Xl) : Xl.length ≤ maxLen := by
  rcases h with ⟨a, cap, h, rfl⟩ | ⟨b, off, cap, h, _, h3, _⟩
  · exact Nat.zero_le _
  · exact h3
theorem RrsAt.full' {lo : Nat} {w : World} {a : Option Addr} {n cap : Nat} {Xl : List Rr} (h : RrsAt lo w (.slice a n cap) Xl) (hL : 0 < Xl.length) :
    ∃ b off, a = some ⟨b, off, none⟩ ∧ b < w.heap.size ∧ lo ≤ b ∧ ∀ i (h : i < Xl.length), ∃ cs, w.rangeAt b (off + i * 18) cs ∧ RrC lo w cs Xl[i] := by
  rcases h with ⟨a', cap', h, rfl⟩ | ⟨b', off', cap', h1, h2, h3, h4, h5, h6, h7⟩
  · simp at hL
  · injection h1 with e1 e2 e3
    exact ⟨b', off', e1, h4, h5, h7⟩
set_option maxRecDepth 20000 in
set_option maxHeartbeats 2000000 in
theorem eqRrs_same (lo lo' : Nat) (v v' : Value) (Xl : List Rr) (w : World) (hv : RrsAt lo w v Xl) (hv' : RrsAt lo' w v' Xl) :
    Calls Tryz.prog 106 #[v, v'] w fun e w' => e = .returned (.bool true) ∧ Below w.heap.size w w' := by
  have hm := hv.max
  unfold maxLen at hm
  have HV := hide hv
  have HW := hide hv'
  obtain ⟨a, cap, rfl⟩ := hv.form
  obtain ⟨a', cap', rfl⟩ := hv'.form
  clear hv hv'
  go_enter Tryz.func106, Tryz.ntmps106
  go_wp2
  go_loopw [5] (fun i wr => ∃ k : Nat, i = .int .i64 k ∧ k ≤ Xl.length ∧ Below w.heap.size w wr) (fun i _ => Xl.length - (intOf i).toNat)
  case atStart => exact ⟨0, rfl, by omega, Below.refl _ _⟩
  case round =>
    obtain ⟨k, rfl, hk, hb⟩ := hrel
    by_cases hlt : k < Xl.length
    · obtain ⟨b, off, rfl, hbw, -, hc⟩ := HV.out.full' (by omega)
      obtain ⟨b', off', rfl, hbw', -, hc'⟩ := HW.out.full' (by omega)
      obtain ⟨cs, hr, hx⟩ := hc k hlt
      obtain ⟨cs', hr', hx'⟩ := hc' k hlt
      have HX := hide (hx.below hb)
      have HX' := hide (hx'.below hb)
      have HB := hide hb
      have hz : (Tryz.prog.info? 61).map (·.size) = some cs.length := by rw [hx.len]; exact Rr_sizeI
      have hz' : (Tryz.prog.info? 61).map (·.size) = some cs'.length := by rw [hx'.len]; exact Rr_sizeI
      have hRr : Hid (wr.rangeAt b (off + k * 18) cs ∧ b < wr.heap.size) := ⟨rng_below hr hb hbw, Nat.lt_of_lt_of_le hbw hb.size⟩
      have hRr' : Hid (wr.rangeAt b' (off' + k * 18) cs' ∧ b' < wr.heap.size) := ⟨rng_below hr' hb hbw', Nat.lt_of_lt_of_le hbw' hb.size⟩
      have i0 : (0 : Int) ≤ (k : Int) := by omega
      have i1 : (k : Int) < (Xl.length : Int) := by omega
      have KP : Hid (∀ W, Below wr.heap.size wr W → W.rangeAt b (off + k * 18) cs ∧ W.rangeAt b' (off' + k * 18) cs') := fun W hW => ⟨rng_below hRr.out.1 hW hRr.out.2, rng_below hRr'.out.1 hW hRr'.out.2⟩
      have HZ1 := hide hz
      have HZ2 := hide hz'
      clear hc hc' hr hr' hx hx' hb hz hz' hRr hRr'
      go_wp2
      refine wp_region_held_drew (S := fun W => W.rangeAt b (off + k * 18) cs ∧ W.rangeAt b' (off' + k * 18) cs') (by kernel_rfl) (KP.out _ ((Below.refl _ _).drew)) (fun hHeld => ?_)
      refine wpAnyH_take (i := 0) (v := .slice (some ⟨b, off, none⟩) Xl.length cap) rfl (by kernel_rfl) (by kernel_rfl) (by kernel_rfl) (fun _ _ _ h => h) (Or.inl ⟨by rfl, fun W hW => by go_simp⟩) hHeld ?_
      simp only [Act.put, List.setIfInBounds_toArray]
      refine wpAnyH_take (i := 1) (v := .int .i64 k) rfl (by kernel_rfl) (by kernel_rfl) (by kernel_rfl) (fun _ _ _ h => h) (Or.inl ⟨by rfl, fun W hW => by go_simp⟩) hHeld ?_
      simp only [Act.put]
      refine wpAnyH_take (i := 2) (v := .pointer (some ⟨b, off + k * 18, none⟩)) rfl (by kernel_rfl) (by kernel_rfl) (by kernel_rfl) (fun _ _ _ h => h) (Or.inl ⟨by rfl, fun W hW => by go_simp⟩) hHeld ?_
      simp only [Act.put]
      refine wpAnyH_take (i := 3) rfl (by kernel_rfl) (by kernel_rfl) (by kernel_rfl) (fun _ _ _ h => h) (yieldsIf_load_mid (by rfl) 61 (.tmp 19) rfl b (off + k * 18) rfl cs _ (fun _ h => h.1) Tryz.underlying61 rfl HZ1.out) hHeld ?_
      simp only [Act.put]
      refine wpAnyH_take (i := 4) (v := (.slice (some ⟨b', off', none⟩) Xl.length cap')) rfl (by kernel_rfl) (by kernel_rfl) (by kernel_rfl) (fun _ _ _ h => h) (Or.inl ⟨by rfl, fun W hW => by go_simp⟩) hHeld ?_
      simp only [Act.put]
      refine wpAnyH_take (i := 5) (v := .int .i64 k) rfl (by kernel_rfl) (by kernel_rfl) (by kernel_rfl) (fun _ _ _ h => h) (Or.inl ⟨by rfl, fun W hW => by go_simp⟩) hHeld ?_
      simp only [Act.put]
      refine wpAnyH_take (i := 6) (v := (.pointer (some ⟨b', off' + k * 18, none⟩))) rfl (by kernel_rfl) (by kernel_rfl) (by kernel_rfl) (fun _ _ _ h => h) (Or.inl ⟨by rfl, fun W hW => by go_simp⟩) hHeld ?_
      simp only [Act.put]
      refine wpAnyH_take (i := 7) rfl (by kernel_rfl) (by kernel_rfl) (by kernel_rfl) (fun _ _ _ h => h) (yieldsIf_load_mid (by rfl) 61 (.tmp 23) rfl b' (off' + k * 18) rfl cs' _ (fun _ h => h.2) Tryz.underlying61 rfl HZ2.out) hHeld ?_
      simp only [Act.put]
      refine wpAnyH_ready (rs := [8]) (by kernel_rfl) (by simp) ?_
      refine AllReadyH.cons rfl (fun K hK => ?_) AllReadyH.nil
      go_simp
      refine (eqRr_c lo lo' _ _ _ _ (HX.out.below ((Below.refl _ _).drew)) (HX'.out.below ((Below.refl _ _).drew))).mono ?_
      rintro e w1 ⟨rfl, hb1⟩
      have HC1 : Hid (Below wr.heap.size wr w1) := bt ((Below.refl _ _).drew) hb1
      have hB : Hid (Below w.heap.size w w1) := bt HB.out HC1.out
      clear hb1
      try go_wp2_with fail
      refine hK.out _ _ (KP.out _ HC1.out) (fun hHeld => ?_)
      clear hK K
      try simp only [Act.put, List.setIfInBounds_toArray, List.set_cons_zero, List.set_cons_succ]
      refine wpAnyH_take (i := 9) (v := .bool false) rfl (by kernel_rfl) (by kernel_rfl) (by kernel_rfl) (fun _ _ _ h => h) (Or.inl ⟨by rfl, fun W hW => by go_simp⟩) hHeld ?_
      simp only [Act.put, List.setIfInBounds_toArray]
      refine wpAnyH_done (by kernel_rfl) ?_ _
      go_wp2
      go_roundw
      case rel => exact ⟨k + 1, by go_num, by omega, hB.out⟩
      case measure => simp [intOf]; omega
    · go_wp2
      go_ret
      exact ⟨rfl, hb⟩

def RrsFill (wr : World) (B : Nat) (Xl : List Rr) (k : Nat) : Prop :=
  B < wr.heap.size ∧ wr.there B 0 (Xl.length * 18) ∧ ∀ i (h : i < Xl.length), i < k → ∃ cs, wr.rangeAt B (i * 18) cs ∧ RrC (B + 1) wr cs Xl[i]
theorem RrsFill.below {wr w1 : World} {B : Nat} {Xl : List Rr} {k : Nat} (h : RrsFill wr B Xl k) (hb : Below wr.heap.size wr w1) : RrsFill w1 B Xl k := by
  obtain ⟨h1, h2, h3⟩ := h
  refine ⟨Nat.lt_of_lt_of_le h1 hb.size, there_below h2 hb h1, fun i hi hik => ?_⟩
  obtain ⟨cs, hr, hc⟩ := h3 i hi hik
  exact ⟨cs, rng_below hr hb h1, hc.below hb⟩
theorem RrsFill.new (w : World) (Xl : List Rr) (z : Array Value) : RrsFill (w.alloc (.cells (madeCells z (Xl.length * 18)) 61)) w.heap.size Xl 0 :=
  ⟨by simp, there_made w _ _ _ (size_madeCells _ _), fun i _ h => by omega⟩

end Go.Proofs.YtdeammfdkaomlaaGreat
namespace Go.Proofs.YtdeammfdkaomlaaGreat
open Go.RowKit Go.Deep

structure Wd where
  rs : List Rr
  fl : List Rm
  fx : List Rx
structure WdAt (lo : Nat) (w : World) (v0 v1 v2 : Value) (U : Wd) : Prop where
  l0 : RrsAt lo w v0 U.rs
  l1 : RmsAt lo w v1 U.fl
  l2 : RxsAt lo w v2 U.fx
theorem WdAt.below {lo : Nat} {w w' : World} {v0 v1 v2 : Value} {U : Wd} (h : WdAt lo w v0 v1 v2 U) (hb : Below w.heap.size w w') : WdAt lo w' v0 v1 v2 U := ⟨h.l0.below hb, h.l1.below hb, h.l2.below hb⟩
theorem WdAt.mono {lo lo' : Nat} {w : World} {v0 v1 v2 : Value} {U : Wd} (h : WdAt lo w v0 v1 v2 U) (hl : lo' ≤ lo) : WdAt lo' w v0 v1 v2 U := ⟨h.l0.mono hl, h.l1.mono hl, h.l2.mono hl⟩
theorem WdAt.set {lo : Nat} {w : World} {v0 v1 v2 : Value} {U : Wd} (h : WdAt lo w v0 v1 v2 U) {p : Addr} (hp : p.block < lo) (u : Value) : WdAt lo (w.setCell p u) v0 v1 v2 U := ⟨h.l0.set hp u, h.l1.set hp u, h.l2.set hp u⟩
/-- its cells -/
def wdL (U : Wd) (a0 : Option Addr) (k0 : Nat) (a1 : Option Addr) (k1 : Nat) (a2 : Option Addr) (k2 : Nat) : List Value := [.slice a0 U.rs.length k0, .slice a1 U.fl.length k1, .slice a2 U.fx.length k2]
/-- its cells, and what they lead to -/
def WdC (lo : Nat) (w : World) (cs : List Value) (U : Wd) : Prop := ∃ a0 k0 a1 k1 a2 k2, cs = wdL U a0 k0 a1 k1 a2 k2 ∧ WdAt lo w (.slice a0 U.rs.length k0) (.slice a1 U.fl.length k1) (.slice a2 U.fx.length k2) U
theorem WdC.below {lo : Nat} {w w' : World} {cs : List Value} {U : Wd} (h : WdC lo w cs U) (hb : Below w.heap.size w w') : WdC lo w' cs U := by
  obtain ⟨a0, k0, a1, k1, a2, k2, h1, h2⟩ := h
  exact ⟨a0, k0, a1, k1, a2, k2, h1, h2.below hb⟩
theorem WdC.mono {lo lo' : Nat} {w : World} {cs : List Value} {U : Wd} (h : WdC lo w cs U) (hl : lo' ≤ lo) : WdC lo' w cs U := by
  obtain ⟨a0, k0, a1, k1, a2, k2, h1, h2⟩ := h
  exact ⟨a0, k0, a1, k1, a2, k2, h1, h2.mono hl⟩
theorem WdC.set {lo : Nat} {w : World} {cs : List Value} {U : Wd} (h : WdC lo w cs U) {p : Addr} (hp : p.block < lo) (u : Value) : WdC lo (w.setCell p u) cs U := by
  obtain ⟨a0, k0, a1, k1, a2, k2, h1, h2⟩ := h
  exact ⟨a0, k0, a1, k1, a2, k2, h1, h2.set hp u⟩
theorem WdC.len {lo : Nat} {w : World} {cs : List Value} {U : Wd} (h : WdC lo w cs U) : cs.length = 3 := by
  obtain ⟨a0, k0, a1, k1, a2, k2, h1, h2⟩ := h
  rw [h1]; rfl
theorem WdC.one {lo : Nat} {w : World} {cs : List Value} {U : Wd} (h : WdC lo w cs U) : Array.all cs.toArray (·.oneCell') = true := by
  obtain ⟨a0, k0, a1, k1, a2, k2, h1, h2⟩ := h
  rw [h1]
  unfold wdL
  simp [Value.oneCell']

set_option maxHeartbeats 8000000 in
theorem eqWd_c (lo lo' : Nat) (cs cs' : List Value) (U : Wd) (w : World) (h : WdC lo w cs U) (h' : WdC lo' w cs' U) :
    Calls Tryz.prog 36 #[.agg cs.toArray, .agg cs'.toArray] w fun e w' => e = .returned (.bool true) ∧ Below w.heap.size w w' := by
  obtain ⟨a0, k0, a1, k1, a2, k2, rfl, h⟩ := h
  obtain ⟨d0, e0, d1, e1, d2, e2, rfl, h'⟩ := h'
  show Calls Tryz.prog 36 #[.agg #[.slice a0 U.rs.length k0, .slice a1 U.fl.length k1, .slice a2 U.fx.length k2], .agg #[.slice d0 U.rs.length e0, .slice d1 U.fl.length e1, .slice d2 U.fx.length e2]] w _
  have HL := hide h
  have HR := hide h'
  clear h h'
  go_enter Tryz.func36, Tryz.ntmps36
  go_wp2_with fail
  generalize hWa : (World.alloc (w.alloc _) _) = Wa
  have HB : Hid (Below w.heap.size w Wa) := by unfold Hid; rw [← hWa]; exact (one_al w _).alloc (by simp) _
  have FX : Hid (Box Wa w.heap.size #[.slice a0 U.rs.length k0, .slice a1 U.fl.length k1, .slice a2 U.fx.length k2]) := by unfold Hid; rw [← hWa]; exact (Box.new _ _ _ _ rfl).on (one_al _ _)
  have FY : Hid (Box Wa (w.heap.size + 1) #[.slice d0 U.rs.length e0, .slice d1 U.fl.length e1, .slice d2 U.fx.length e2]) := by unfold Hid; rw [← hWa]; exact Box.new _ _ _ _ (by simp)
  clear hWa
  refine (eqRrs_same lo lo' _ _ U.rs _ ((HL.out.below HB.out).l0) ((HR.out.below HB.out).l0)).mono ?_
  rintro e w0 ⟨rfl, hb⟩
  replace HB := hide (bt HB.out hb)
  replace FX := hide (FX.out.on hb)
  replace FY := hide (FY.out.on hb)
  clear hb
  have g0 := FX.out.cell
  have g1 := FY.out.cell
  go_wp2_with fail
  clear g0 g1
  refine (eqRms_same lo lo' _ _ U.fl _ ((HL.out.below HB.out).l1) ((HR.out.below HB.out).l1)).mono ?_
  rintro e w1 ⟨rfl, hb⟩
  replace HB := hide (bt HB.out hb)
  replace FX := hide (FX.out.on hb)
  replace FY := hide (FY.out.on hb)
  clear hb
  have g0 := FX.out.cell
  have g1 := FY.out.cell
  go_wp2_with fail
  clear g0 g1
  refine (eqRxs_same lo lo' _ _ U.fx _ ((HL.out.below HB.out).l2) ((HR.out.below HB.out).l2)).mono ?_
  rintro e w2 ⟨rfl, hb⟩
  replace HB := hide (bt HB.out hb)
  replace FX := hide (FX.out.on hb)
  replace FY := hide (FY.out.on hb)
  clear hb
  have g0 := FX.out.cell
  have g1 := FY.out.cell
  go_wp2
  go_ret
  exact ⟨rfl, HB.out⟩

end Go.Proofs.YtdeammfdkaomlaaGreat
