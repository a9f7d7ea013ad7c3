import Derived.Test.YtdeammfdkaomlaaGreatV21
import Derived.Test.YtdeammfdkaomlaaGreatV38
namespace Go.Proofs.YtdeammfdkaomlaaGreat
open Go.RowKit Go.Deep

theorem RmC.sets {lo b : Nat} (hb : b < lo) {cs : List Value} {x : Rm} : ∀ (vs : List Value) (o : Nat) {w : World}, RmC lo w cs x → RmC lo (w.setCells b o vs) cs x
  | [], _, _, h => h
  | v :: vs, o, _, h => RmC.sets hb vs (o + 1) (h.set hb v)
theorem Rm_sizeI : (Tryz.prog.info? 102).map (·.size) = some 8 := by kernel_rfl
/-- a list of them in memory, all of it above lo -/
def RmsAt (lo : Nat) (w : World) (v : Value) (Xl : List Rm) : Prop :=
  (∃ (a : Option Addr) (cap : Nat), v = .slice a 0 cap ∧ Xl = []) ∨
  ∃ (b off cap : Nat), v = .slice (some ⟨b, off, none⟩) Xl.length cap ∧ Xl ≠ [] ∧ Xl.length ≤ maxLen ∧ b < w.heap.size ∧ lo ≤ b ∧ Xl.length ≤ cap ∧
    ∀ i (h : i < Xl.length), ∃ cs, w.rangeAt b (off + i * 8) cs ∧ RmC lo w cs Xl[i]
theorem RmsAt.below {lo : Nat} {w w' : World} {v : Value} {Xl : List Rm} (h : RmsAt lo w v Xl) (hb : Below w.heap.size w w') : RmsAt lo w' v Xl := by
  rcases h with h | ⟨b, off, cap, h1, h2, h3, h4, h5, h6, h7⟩
  · exact Or.inl h
  · refine Or.inr ⟨b, off, cap, h1, h2, h3, Nat.lt_of_lt_of_le h4 hb.size, h5, h6, fun i hi => ?_⟩
    obtain ⟨cs, hr, hc⟩ := h7 i hi
    exact ⟨cs, rng_below hr hb h4, hc.below hb⟩
theorem RmsAt.mono {lo lo' : Nat} {w : World} {v : Value} {Xl : List Rm} (h : RmsAt lo w v Xl) (hl : lo' ≤ lo) : RmsAt lo' w v Xl := by
  rcases h with h | ⟨b, off, cap, h1, h2, h3, h4, h5, h6, h7⟩
  · exact Or.inl h
  · refine Or.inr ⟨b, off, cap, h1, h2, h3, h4, Nat.le_trans hl h5, h6, fun i hi => ?_⟩
    obtain ⟨cs, hr, hc⟩ := h7 i hi
    exact ⟨cs, hr, hc.mono hl⟩
theorem RmsAt.set {lo : Nat} {w : World} {v : Value} {Xl : List Rm} (h : RmsAt lo w v Xl) {p : Addr} (hp : p.block < lo) (u : Value) : RmsAt lo (w.setCell p u) v Xl := by
  rcases h with h | ⟨b, off, cap, h1, h2, h3, h4, h5, h6, h7⟩
  · exact Or.inl h
  · refine Or.inr ⟨b, off, cap, h1, h2, h3, by simpa [World.setCell] using h4, h5, h6, fun i hi => ?_⟩
    obtain ⟨cs, hr, hc⟩ := h7 i hi
    exact ⟨cs, rng_set hr (by omega) u, hc.set hp u⟩
theorem RmsAt.form {lo : Nat} {w : World} {v : Value} {Xl : List Rm} (h : RmsAt lo w v Xl) : ∃ a cap, v = .slice a Xl.length cap := by
  rcases h with ⟨a, cap, h, rfl⟩ | ⟨b, off, cap, h, _⟩
  · exact ⟨a, cap, h⟩
  · exact ⟨_, cap, h⟩
theorem RmsAt.max {lo : Nat} {w : World} {v : Value} {Xl : List Rm} (h : RmsAt lo w v Xl) : Xl.length ≤ maxLen := by
  rcases h with ⟨a, cap, h, rfl⟩ | ⟨b, off, cap, h, _, h3, _⟩
  · exact Nat.zero_le _
  · exact h3
theorem RmsAt.full' {lo : Nat} {w : World} {a : Option Addr} {n cap : Nat} {Xl : List Rm} (h : RmsAt lo w (.slice a n cap) Xl) (hL : 0 < Xl.length) :
    ∃ b off, a = some ⟨b, off, none⟩ ∧ b < w.heap.size ∧ lo ≤ b ∧ ∀ i (h : i < Xl.length), ∃ cs, w.rangeAt b (off + i * 8) cs ∧ RmC lo w cs Xl[i] := by
  rcases h with ⟨a', cap', h, rfl⟩ | ⟨b', off', cap', h1, h2, h3, h4, h5, h6, h7⟩
  · simp at hL
  · injection h1 with e1 e2 e3
    exact ⟨b', off', e1, h4, h5, h7⟩
set_option maxRecDepth 20000 in
set_option maxHeartbeats 2000000 in
theorem eqRms_same (lo lo' : Nat) (v v' : Value) (Xl : List Rm) (w : World) (hv : RmsAt lo w v Xl) (hv' : RmsAt lo' w v' Xl) :
    Calls Tryz.prog 19 #[v, v'] w fun e w' => e = .returned (.bool true) ∧ Below w.heap.size w w' := by
  have hm := hv.max
  unfold maxLen at hm
  have HV := hide hv
  have HW := hide hv'
  obtain ⟨a, cap, rfl⟩ := hv.form
  obtain ⟨a', cap', rfl⟩ := hv'.form
  clear hv hv'
  go_enter Tryz.func19, Tryz.ntmps19
  go_wp2
  go_loopw [5] (fun i wr => ∃ k : Nat, i = .int .i64 k ∧ k ≤ Xl.length ∧ Below w.heap.size w wr) (fun i _ => Xl.length - (intOf i).toNat)
  case atStart => exact ⟨0, rfl, by omega, Below.refl _ _⟩
  case round =>
    obtain ⟨k, rfl, hk, hb⟩ := hrel
    by_cases hlt : k < Xl.length
    · obtain ⟨b, off, rfl, hbw, -, hc⟩ := HV.out.full' (by omega)
      obtain ⟨b', off', rfl, hbw', -, hc'⟩ := HW.out.full' (by omega)
      obtain ⟨cs, hr, hx⟩ := hc k hlt
      obtain ⟨cs', hr', hx'⟩ := hc' k hlt
      have HX := hide (hx.below hb)
      have HX' := hide (hx'.below hb)
      have HB := hide hb
      have hz : (Tryz.prog.info? 102).map (·.size) = some cs.length := by rw [hx.len]; exact Rm_sizeI
      have hz' : (Tryz.prog.info? 102).map (·.size) = some cs'.length := by rw [hx'.len]; exact Rm_sizeI
      have hRr : Hid (wr.rangeAt b (off + k * 8) cs ∧ b < wr.heap.size) := ⟨rng_below hr hb hbw, Nat.lt_of_lt_of_le hbw hb.size⟩
      have hRr' : Hid (wr.rangeAt b' (off' + k * 8) cs' ∧ b' < wr.heap.size) := ⟨rng_below hr' hb hbw', Nat.lt_of_lt_of_le hbw' hb.size⟩
      have i0 : (0 : Int) ≤ (k : Int) := by omega
      have i1 : (k : Int) < (Xl.length : Int) := by omega
      have KP : Hid (∀ W, Below wr.heap.size wr W → W.rangeAt b (off + k * 8) cs ∧ W.rangeAt b' (off' + k * 8) cs') := fun W hW => ⟨rng_below hRr.out.1 hW hRr.out.2, rng_below hRr'.out.1 hW hRr'.out.2⟩
      have HZ1 := hide hz
      have HZ2 := hide hz'
      clear hc hc' hr hr' hx hx' hb hz hz' hRr hRr'
      go_wp2
      refine wp_region_held_drew (S := fun W => W.rangeAt b (off + k * 8) cs ∧ W.rangeAt b' (off' + k * 8) cs') (by kernel_rfl) (KP.out _ ((Below.refl _ _).drew)) (fun hHeld => ?_)
      refine wpAnyH_take (i := 0) (v := .slice (some ⟨b, off, none⟩) Xl.length cap) rfl (by kernel_rfl) (by kernel_rfl) (by kernel_rfl) (fun _ _ _ h => h) (Or.inl ⟨by rfl, fun W hW => by go_simp⟩) hHeld ?_
      simp only [Act.put, List.setIfInBounds_toArray]
      refine wpAnyH_take (i := 1) (v := .int .i64 k) rfl (by kernel_rfl) (by kernel_rfl) (by kernel_rfl) (fun _ _ _ h => h) (Or.inl ⟨by rfl, fun W hW => by go_simp⟩) hHeld ?_
      simp only [Act.put]
      refine wpAnyH_take (i := 2) (v := .pointer (some ⟨b, off + k * 8, none⟩)) rfl (by kernel_rfl) (by kernel_rfl) (by kernel_rfl) (fun _ _ _ h => h) (Or.inl ⟨by rfl, fun W hW => by go_simp⟩) hHeld ?_
      simp only [Act.put]
      refine wpAnyH_take (i := 3) rfl (by kernel_rfl) (by kernel_rfl) (by kernel_rfl) (fun _ _ _ h => h) (yieldsIf_load_mid (by rfl) 102 (.tmp 19) rfl b (off + k * 8) rfl cs _ (fun _ h => h.1) Tryz.underlying102 rfl HZ1.out) hHeld ?_
      simp only [Act.put]
      refine wpAnyH_take (i := 4) (v := (.slice (some ⟨b', off', none⟩) Xl.length cap')) rfl (by kernel_rfl) (by kernel_rfl) (by kernel_rfl) (fun _ _ _ h => h) (Or.inl ⟨by rfl, fun W hW => by go_simp⟩) hHeld ?_
      simp only [Act.put]
      refine wpAnyH_take (i := 5) (v := .int .i64 k) rfl (by kernel_rfl) (by kernel_rfl) (by kernel_rfl) (fun _ _ _ h => h) (Or.inl ⟨by rfl, fun W hW => by go_simp⟩) hHeld ?_
      simp only [Act.put]
      refine wpAnyH_take (i := 6) (v := (.pointer (some ⟨b', off' + k * 8, none⟩))) rfl (by kernel_rfl) (by kernel_rfl) (by kernel_rfl) (fun _ _ _ h => h) (Or.inl ⟨by rfl, fun W hW => by go_simp⟩) hHeld ?_
      simp only [Act.put]
      refine wpAnyH_take (i := 7) rfl (by kernel_rfl) (by kernel_rfl) (by kernel_rfl) (fun _ _ _ h => h) (yieldsIf_load_mid (by rfl) 102 (.tmp 23) rfl b' (off' + k * 8) rfl cs' _ (fun _ h => h.2) Tryz.underlying102 rfl HZ2.out) hHeld ?_
      simp only [Act.put]
      refine wpAnyH_ready (rs := [8]) (by kernel_rfl) (by simp) ?_
      refine AllReadyH.cons rfl (fun K hK => ?_) AllReadyH.nil
      go_simp
      refine (eqRm_c lo lo' _ _ _ _ (HX.out.below ((Below.refl _ _).drew)) (HX'.out.below ((Below.refl _ _).drew))).mono ?_
      rintro e w1 ⟨rfl, hb1⟩
      have HC1 : Hid (Below wr.heap.size wr w1) := bt ((Below.refl _ _).drew) hb1
      have hB : Hid (Below w.heap.size w w1) := bt HB.out HC1.out
      clear hb1
      try go_wp2_with fail
      refine hK.out _ _ (KP.out _ HC1.out) (fun hHeld => ?_)
      clear hK K
      try simp only [Act.put, List.setIfInBounds_toArray, List.set_cons_zero, List.set_cons_succ]
      refine wpAnyH_take (i := 9) (v := .bool false) rfl (by kernel_rfl) (by kernel_rfl) (by kernel_rfl) (fun _ _ _ h => h) (Or.inl ⟨by rfl, fun W hW => by go_simp⟩) hHeld ?_
      simp only [Act.put, List.setIfInBounds_toArray]
      refine wpAnyH_done (by kernel_rfl) ?_ _
      go_wp2
      go_roundw
      case rel => exact ⟨k + 1, by go_num, by omega, hB.out⟩
      case measure => simp [intOf]; omega
    · go_wp2
      go_ret
      exact ⟨rfl, hb⟩

def RmsFill (wr : World) (B : Nat) (Xl : List Rm) (k : Nat) : Prop :=
  B < wr.heap.size ∧ wr.there B 0 (Xl.length * 8) ∧ ∀ i (h : i < Xl.length), i < k → ∃ cs, wr.rangeAt B (i * 8) cs ∧ RmC (B + 1) wr cs Xl[i]
theorem RmsFill.below {wr w1 : World} {B : Nat} {Xl : List Rm} {k : Nat} (h : RmsFill wr B Xl k) (hb : Below wr.heap.size wr w1) : RmsFill w1 B Xl k := by
  obtain ⟨h1, h2, h3⟩ := h
  refine ⟨Nat.lt_of_lt_of_le h1 hb.size, there_below h2 hb h1, fun i hi hik => ?_⟩
  obtain ⟨cs, hr, hc⟩ := h3 i hi hik
  exact ⟨cs, rng_below hr hb h1, hc.below hb⟩
theorem RmsFill.new (w : World) (Xl : List Rm) (z : Array Value) : RmsFill (w.alloc (.cells (madeCells z (Xl.length * 8)) 102)) w.heap.size Xl 0 :=
  ⟨by simp, there_made w _ _ _ (size_madeCells _ _), fun i _ h => by omega⟩

end Go.Proofs.YtdeammfdkaomlaaGreat
