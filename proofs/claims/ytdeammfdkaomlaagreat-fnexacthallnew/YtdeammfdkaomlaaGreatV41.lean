import Derived.Test.YtdeammfdkaomlaaGreatV38
import Derived.Test.YtdeammfdkaomlaaGreatV40
namespace Go.Proofs.YtdeammfdkaomlaaGreat
open Go.RowKit Go.Deep

theorem RaC.sets {lo b : Nat} (hb : b < lo) {cs : List Value} {x : Ra} : ∀ (vs : List Value) (o : Nat) {w : World}, RaC lo w cs x → RaC lo (w.setCells b o vs) cs x
  | [], _, _, h => h
  | v :: vs, o, _, h => RaC.sets hb vs (o + 1) (h.set hb v)
theorem Ra_sizeI : (Tryz.prog.info? 170).map (·.size) = some 2 := by kernel_rfl
/-- a list of them in memory, all of it above lo -/
def RasAt (lo : Nat) (w : World) (v : Value) (Xl : List Ra) : Prop :=
  (∃ (a : Option Addr) (cap : Nat), v = .slice a 0 cap ∧ Xl = []) ∨
  ∃ (b off cap : Nat), v = .slice (some ⟨b, off, none⟩) Xl.length cap ∧ Xl ≠ [] ∧ Xl.length ≤ maxLen ∧ b < w.heap.size ∧ lo ≤ b ∧ Xl.length ≤ cap ∧
    ∀ i (h : i < Xl.length), ∃ cs, w.rangeAt b (off + i * 2) cs ∧ RaC lo w cs Xl[i]
theorem RasAt.below {lo : Nat} {w w' : World} {v : Value} {Xl : List Ra} (h : RasAt lo w v Xl) (hb : Below w.heap.size w w') : RasAt lo w' v Xl := by
  rcases h with h | ⟨b, off, cap, h1, h2, h3, h4, h5, h6, h7⟩
  · exact Or.inl h
  · refine Or.inr ⟨b, off, cap, h1, h2, h3, Nat.lt_of_lt_of_le h4 hb.size, h5, h6, fun i hi => ?_⟩
    obtain ⟨cs, hr, hc⟩ := h7 i hi
    exact ⟨cs, rng_below hr hb h4, hc.below hb⟩
theorem RasAt.mono {lo lo' : Nat} {w : World} {v : Value} {Xl : List Ra} (h : RasAt lo w v Xl) (hl : lo' ≤ lo) : RasAt lo' w v Xl := by
  rcases h with h | ⟨b, off, cap, h1, h2, h3, h4, h5, h6, h7⟩
  · exact Or.inl h
  · refine Or.inr ⟨b, off, cap, h1, h2, h3, h4, Nat.le_trans hl h5, h6, fun i hi => ?_⟩
    obtain ⟨cs, hr, hc⟩ := h7 i hi
    exact ⟨cs, hr, hc.mono hl⟩
theorem RasAt.set {lo : Nat} {w : World} {v : Value} {Xl : List Ra} (h : RasAt lo w v Xl) {p : Addr} (hp : p.block < lo) (u : Value) : RasAt lo (w.setCell p u) v Xl := by
  rcases h with h | ⟨b, off, cap, h1, h2, h3, h4, h5, h6, h7⟩
  · exact Or.inl h
  · refine Or.inr ⟨b, off, cap, h1, h2, h3, by simpa [World.setCell] using h4, h5, h6, fun i hi => ?_⟩
    obtain ⟨cs, hr, hc⟩ := h7 i hi
    exact ⟨cs, rng_set hr (by omega) u, hc.set hp u⟩
theorem RasAt.form {lo : Nat} {w : World} {v : Value} {Xl : List Ra} (h : RasAt lo w v Xl) : ∃ a cap, v = .slice a Xl.length cap := by
  rcases h with ⟨a, cap, h, rfl⟩ | ⟨b, off, cap, h, _⟩
  · exact ⟨a, cap, h⟩
  · exact ⟨_, cap, h⟩
theorem RasAt.max {lo : Nat} {w : World} {v : Value} {Xl : List Ra} (h : RasAt lo w v Xl) : Xl.length ≤ maxLen := by
  rcases h with ⟨a, cap, h, rfl⟩ | ⟨b, off, cap, h, _, h3, _⟩
  · exact Nat.zero_le _
  · exact h3
theorem RasAt.full' {lo : Nat} {w : World} {a : Option Addr} {n cap : Nat} {Xl : List Ra} (h : RasAt lo w (.slice a n cap) Xl) (hL : 0 < Xl.length) :
    ∃ b off, a = some ⟨b, off, none⟩ ∧ b < w.heap.size ∧ lo ≤ b ∧ ∀ i (h : i < Xl.length), ∃ cs, w.rangeAt b (off + i * 2) cs ∧ RaC lo w cs Xl[i] := by
  rcases h with ⟨a', cap', h, rfl⟩ | ⟨b', off', cap', h1, h2, h3, h4, h5, h6, h7⟩
  · simp at hL
  · injection h1 with e1 e2 e3
    exact ⟨b', off', e1, h4, h5, h7⟩
set_option maxRecDepth 20000 in
set_option maxHeartbeats 2000000 in
theorem eqRas_same (lo lo' : Nat) (v v' : Value) (Xl : List Ra) (w : World) (hv : RasAt lo w v Xl) (hv' : RasAt lo' w v' Xl) :
    Calls Tryz.prog 77 #[v, v'] w fun e w' => e = .returned (.bool true) ∧ Below w.heap.size w w' := by
  have hm := hv.max
  unfold maxLen at hm
  have HV := hide hv
  have HW := hide hv'
  obtain ⟨a, cap, rfl⟩ := hv.form
  obtain ⟨a', cap', rfl⟩ := hv'.form
  clear hv hv'
  go_enter Tryz.func77, Tryz.ntmps77
  go_wp2
  go_loopw [5] (fun i wr => ∃ k : Nat, i = .int .i64 k ∧ k ≤ Xl.length ∧ Below w.heap.size w wr) (fun i _ => Xl.length - (intOf i).toNat)
  case atStart => exact ⟨0, rfl, by omega, Below.refl _ _⟩
  case round =>
    obtain ⟨k, rfl, hk, hb⟩ := hrel
    by_cases hlt : k < Xl.length
    · obtain ⟨b, off, rfl, hbw, -, hc⟩ := HV.out.full' (by omega)
      obtain ⟨b', off', rfl, hbw', -, hc'⟩ := HW.out.full' (by omega)
      obtain ⟨cs, hr, hx⟩ := hc k hlt
      obtain ⟨cs', hr', hx'⟩ := hc' k hlt
      have HX := hide (hx.below hb)
      have HX' := hide (hx'.below hb)
      have HB := hide hb
      have hz : (Tryz.prog.info? 170).map (·.size) = some cs.length := by rw [hx.len]; exact Ra_sizeI
      have hz' : (Tryz.prog.info? 170).map (·.size) = some cs'.length := by rw [hx'.len]; exact Ra_sizeI
      have hRr : Hid (wr.rangeAt b (off + k * 2) cs ∧ b < wr.heap.size) := ⟨rng_below hr hb hbw, Nat.lt_of_lt_of_le hbw hb.size⟩
      have hRr' : Hid (wr.rangeAt b' (off' + k * 2) cs' ∧ b' < wr.heap.size) := ⟨rng_below hr' hb hbw', Nat.lt_of_lt_of_le hbw' hb.size⟩
      have i0 : (0 : Int) ≤ (k : Int) := by omega
      have i1 : (k : Int) < (Xl.length : Int) := by omega
      have KP : Hid (∀ W, Below wr.heap.size wr W → W.rangeAt b (off + k * 2) cs ∧ W.rangeAt b' (off' + k * 2) cs') := fun W hW => ⟨rng_below hRr.out.1 hW hRr.out.2, rng_below hRr'.out.1 hW hRr'.out.2⟩
      have HZ1 := hide hz
      have HZ2 := hide hz'
      clear hc hc' hr hr' hx hx' hb hz hz' hRr hRr'
      go_wp2
      refine wp_region_held_drew (S := fun W => W.rangeAt b (off + k * 2) cs ∧ W.rangeAt b' (off' + k * 2) cs') (by kernel_rfl) (KP.out _ ((Below.refl _ _).drew)) (fun hHeld => ?_)
      refine wpAnyH_take (i := 0) (v := .slice (some ⟨b, off, none⟩) Xl.length cap) rfl (by kernel_rfl) (by kernel_rfl) (by kernel_rfl) (fun _ _ _ h => h) (Or.inl ⟨by rfl, fun W hW => by go_simp⟩) hHeld ?_
      simp only [Act.put, List.setIfInBounds_toArray]
      refine wpAnyH_take (i := 1) (v := .int .i64 k) rfl (by kernel_rfl) (by kernel_rfl) (by kernel_rfl) (fun _ _ _ h => h) (Or.inl ⟨by rfl, fun W hW => by go_simp⟩) hHeld ?_
      simp only [Act.put]
      refine wpAnyH_take (i := 2) (v := .pointer (some ⟨b, off + k * 2, none⟩)) rfl (by kernel_rfl) (by kernel_rfl) (by kernel_rfl) (fun _ _ _ h => h) (Or.inl ⟨by rfl, fun W hW => by go_simp⟩) hHeld ?_
      simp only [Act.put]
      refine wpAnyH_take (i := 3) rfl (by kernel_rfl) (by kernel_rfl) (by kernel_rfl) (fun _ _ _ h => h) (yieldsIf_load_mid (by rfl) 170 (.tmp 19) rfl b (off + k * 2) rfl cs _ (fun _ h => h.1) Tryz.underlying170 rfl HZ1.out) hHeld ?_
      simp only [Act.put]
      refine wpAnyH_take (i := 4) (v := (.slice (some ⟨b', off', none⟩) Xl.length cap')) rfl (by kernel_rfl) (by kernel_rfl) (by kernel_rfl) (fun _ _ _ h => h) (Or.inl ⟨by rfl, fun W hW => by go_simp⟩) hHeld ?_
      simp only [Act.put]
      refine wpAnyH_take (i := 5) (v := .int .i64 k) rfl (by kernel_rfl) (by kernel_rfl) (by kernel_rfl) (fun _ _ _ h => h) (Or.inl ⟨by rfl, fun W hW => by go_simp⟩) hHeld ?_
      simp only [Act.put]
      refine wpAnyH_take (i := 6) (v := (.pointer (some ⟨b', off' + k * 2, none⟩))) rfl (by kernel_rfl) (by kernel_rfl) (by kernel_rfl) (fun _ _ _ h => h) (Or.inl ⟨by rfl, fun W hW => by go_simp⟩) hHeld ?_
      simp only [Act.put]
      refine wpAnyH_take (i := 7) rfl (by kernel_rfl) (by kernel_rfl) (by kernel_rfl) (fun _ _ _ h => h) (yieldsIf_load_mid (by rfl) 170 (.tmp 23) rfl b' (off' + k * 2) rfl cs' _ (fun _ h => h.2) Tryz.underlying170 rfl HZ2.out) hHeld ?_
      simp only [Act.put]
      refine wpAnyH_ready (rs := [8]) (by kernel_rfl) (by simp) ?_
      refine AllReadyH.cons rfl (fun K hK => ?_) AllReadyH.nil
      go_simp
      refine (eqRa_c lo lo' _ _ _ _ (HX.out.below ((Below.refl _ _).drew)) (HX'.out.below ((Below.refl _ _).drew))).mono ?_
      rintro e w1 ⟨rfl, hb1⟩
      have HC1 : Hid (Below wr.heap.size wr w1) := bt ((Below.refl _ _).drew) hb1
      have hB : Hid (Below w.heap.size w w1) := bt HB.out HC1.out
      clear hb1
      try go_wp2_with fail
      refine hK.out _ _ (KP.out _ HC1.out) (fun hHeld => ?_)
      clear hK K
      try simp only [Act.put, List.setIfInBounds_toArray, List.set_cons_zero, List.set_cons_succ]
      refine wpAnyH_take (i := 9) (v := .bool false) rfl (by kernel_rfl) (by kernel_rfl) (by kernel_rfl) (fun _ _ _ h => h) (Or.inl ⟨by rfl, fun W hW => by go_simp⟩) hHeld ?_
      simp only [Act.put, List.setIfInBounds_toArray]
      refine wpAnyH_done (by kernel_rfl) ?_ _
      go_wp2
      go_roundw
      case rel => exact ⟨k + 1, by go_num, by omega, hB.out⟩
      case measure => simp [intOf]; omega
    · go_wp2
      go_ret
      exact ⟨rfl, hb⟩

def RasFill (wr : World) (B : Nat) (Xl : List Ra) (k : Nat) : Prop :=
  B < wr.heap.size ∧ wr.there B 0 (Xl.length * 2) ∧ ∀ i (h : i < Xl.length), i < k → ∃ cs, wr.rangeAt B (i * 2) cs ∧ RaC (B + 1) wr cs Xl[i]
theorem RasFill.below {wr w1 : World} {B : Nat} {Xl : List Ra} {k : Nat} (h : RasFill wr B Xl k) (hb : Below wr.heap.size wr w1) : RasFill w1 B Xl k := by
  obtain ⟨h1, h2, h3⟩ := h
  refine ⟨Nat.lt_of_lt_of_le h1 hb.size, there_below h2 hb h1, fun i hi hik => ?_⟩
  obtain ⟨cs, hr, hc⟩ := h3 i hi hik
  exact ⟨cs, rng_below hr hb h1, hc.below hb⟩
theorem RasFill.new (w : World) (Xl : List Ra) (z : Array Value) : RasFill (w.alloc (.cells (madeCells z (Xl.length * 2)) 170)) w.heap.size Xl 0 :=
  ⟨by simp, there_made w _ _ _ (size_madeCells _ _), fun i _ h => by omega⟩

end Go.Proofs.YtdeammfdkaomlaaGreat
