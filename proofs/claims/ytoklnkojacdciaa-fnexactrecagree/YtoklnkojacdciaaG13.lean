import Derived.Test.YtoklnkojacdciaaG12
namespace Go.Proofs.Ytoklnkojacdciaa
open Go.RowKit Go.Deep

theorem RrC.sets {lo b : Nat} (hb : b < lo) {cs : List Value} {x : Rr} : ∀ (vs : List Value) (o : Nat) {w : World}, RrC lo w cs x → RrC lo (w.setCells b o vs) cs x
  | [], _, _, h => h
  | v :: vs, o, _, h => RrC.sets hb vs (o + 1) (h.set hb v)
theorem Rr_sizeI : (Try.prog.info? 51).map (·.size) = some 18 := by kernel_rfl
theorem Rr_sizeL : (Try.prog.info? 97).map (·.size) = some 18 := by kernel_rfl
/-- a list of them in memory, all of it above lo -/
def RrsAt (lo : Nat) (w : World) (v : Value) (Xl : List Rr) : Prop :=
  (∃ (a : Option Addr) (cap : Nat), v = .slice a 0 cap ∧ Xl = []) ∨
  ∃ (b off cap : Nat), v = .slice (some ⟨b, off, none⟩) Xl.length cap ∧ Xl ≠ [] ∧ Xl.length ≤ maxLen ∧ b < w.heap.size ∧ lo ≤ b ∧ Xl.length ≤ cap ∧
    ∀ i (h : i < Xl.length), ∃ cs, w.rangeAt b (off + i * 18) cs ∧ RrC lo w cs Xl[i]
theorem RrsAt.below {lo : Nat} {w w' : World} {v : Value} {Xl : List Rr} (h : RrsAt lo w v Xl) (hb : Below w.heap.size w w') : RrsAt lo w' v Xl := by
  rcases h with h | ⟨b, off, cap, h1, h2, h3, h4, h5, h6, h7⟩
  · exact Or.inl h
  · refine Or.inr ⟨b, off, cap, h1, h2, h3, Nat.lt_of_lt_of_le h4 hb.size, h5, h6, fun i hi => ?_⟩
    obtain ⟨cs, hr, hc⟩ := h7 i hi
    exact ⟨cs, rng_below hr hb h4, hc.below hb⟩
theorem RrsAt.mono {lo lo' : Nat} {w : World} {v : Value} {Xl : List Rr} (h : RrsAt lo w v Xl) (hl : lo' ≤ lo) : RrsAt lo' w v Xl := by
  rcases h with h | ⟨b, off, cap, h1, h2, h3, h4, h5, h6, h7⟩
  · exact Or.inl h
  · refine Or.inr ⟨b, off, cap, h1, h2, h3, h4, Nat.le_trans hl h5, h6, fun i hi => ?_⟩
    obtain ⟨cs, hr, hc⟩ := h7 i hi
    exact ⟨cs, hr, hc.mono hl⟩
theorem RrsAt.set {lo : Nat} {w : World} {v : Value} {Xl : List Rr} (h : RrsAt lo w v Xl) {p : Addr} (hp : p.block < lo) (u : Value) : RrsAt lo (w.setCell p u) v Xl := by
  rcases h with h | ⟨b, off, cap, h1, h2, h3, h4, h5, h6, h7⟩
  · exact Or.inl h
  · refine Or.inr ⟨b, off, cap, h1, h2, h3, by simpa [World.setCell] using h4, h5, h6, fun i hi => ?_⟩
    obtain ⟨cs, hr, hc⟩ := h7 i hi
    exact ⟨cs, rng_set hr (by omega) u, hc.set hp u⟩
theorem RrsAt.form {lo : Nat} {w : World} {v : Value} {Xl : List Rr} (h : RrsAt lo w v Xl) : ∃ a cap, v = .slice a Xl.length cap := by
  rcases h with ⟨a, cap, h, rfl⟩ | ⟨b, off, cap, h, _⟩
  · exact ⟨a, cap, h⟩
  · exact ⟨_, cap, h⟩
theorem RrsAt.max {lo : Nat} {w : World} {v : Value} {Xl : List Rr} (h : RrsAt lo w v Xl) : Xl.length ≤ maxLen := by
  rcases h with ⟨a, cap, h, rfl⟩ | ⟨b, off, cap, h, _, h3, _⟩
  · exact Nat.zero_le _
  · exact h3
theorem RrsAt.full' {lo : Nat} {w : World} {a : Option Addr} {n cap : Nat} {Xl : List Rr} (h : RrsAt lo w (.slice a n cap) Xl) (hL : 0 < Xl.length) :
    ∃ b off, a = some ⟨b, off, none⟩ ∧ b < w.heap.size ∧ lo ≤ b ∧ ∀ i (h : i < Xl.length), ∃ cs, w.rangeAt b (off + i * 18) cs ∧ RrC lo w cs Xl[i] := by
  rcases h with ⟨a', cap', h, rfl⟩ | ⟨b', off', cap', h1, h2, h3, h4, h5, h6, h7⟩
  · simp at hL
  · injection h1 with e1 e2 e3
    exact ⟨b', off', e1, h4, h5, h7⟩
def RrsSmall (Xl : List Rr) : Prop := Xl.length ≤ 1048576 ∧ ∀ i (h : i < Xl.length), RrSmall Xl[i]
def SzRrs (Xl : List Rr) (left r : Int) : Prop := -1 ≤ r ∧ r ≤ left ∧ (0 ≤ r → RrsSmall Xl)

set_option maxHeartbeats 1000000 in
theorem szRrs_any (lo : Nat) (v : Value) (Xl : List Rr) (left : Int) (w : World) (h0 : 0 ≤ left) (h1 : left ≤ 1048576) (hv : RrsAt lo w v Xl) :
    Calls Try.prog 33 #[v, .int .i64 left] w fun e w' => ∃ r : Int, e = .returned (.int .i64 r) ∧ Below w.heap.size w w' ∧ SzRrs Xl left r := by
  rcases hv with ⟨a, cap, rfl, rfl⟩ | ⟨b, off, cap, rfl, hne, hm, hbw, _, _, hc⟩
  · go_enter Try.func33, Try.ntmps33
    go_wp2
    go_loop [1, 5] (fun l i => ∃ r : Int, l = .int .i64 r ∧ 0 ≤ r ∧ r ≤ left ∧ i = .int .i64 0) (fun _ _ => 0)
    case atStart => exact ⟨_, rfl, by omega, by omega, rfl⟩
    case round =>
      obtain ⟨r, rfl, hr0, hr1, rfl⟩ := hrel
      go_wp2
      go_ret
      exact ⟨r, rfl, Below.refl _ _, by omega, by omega, fun _ => ⟨by simp, fun i h => by simp at h⟩⟩
  · unfold maxLen at hm
    by_cases hle : (Xl.length : Int) ≤ left
    · go_enter Try.func33, Try.ntmps33
      go_wp2
      go_loopw [1, 5] (fun l i wr => ∃ (r : Int) (k : Nat), l = .int .i64 r ∧ 0 ≤ r ∧ r ≤ left ∧ i = .int .i64 k ∧ k ≤ Xl.length ∧ Below w.heap.size w wr ∧ ∀ j (hj : j < Xl.length), j < k → RrSmall Xl[j]) (fun _ i _ => Xl.length - (intOf i).toNat)
      case atStart => exact ⟨_, 0, rfl, by omega, by omega, rfl, by omega, Below.refl _ _, fun j _ h => by omega⟩
      case round =>
        obtain ⟨r, k, rfl, hr0, hr1, rfl, hk, hb, hall⟩ := hrel
        have HA := hide hall
        clear hall
        by_cases hlt : k < Xl.length
        · obtain ⟨cs, hr, hx⟩ := hc k hlt
          have HX := hide (hx.below hb)
          have HR := hide (rng_below hr hb hbw)
          have HZ : Hid ((Try.prog.info? 97).map (·.size) = some cs.length) := by unfold Hid; rw [hx.len]; exact Rr_sizeL
          clear hr hx
          go_wp2_with (refine wpList_load_mid rfl 97 (.tmp 20) rfl b (off + k * 18) rfl cs _ HR.out Try.underlying97 rfl HZ.out ?_)
          refine (szRr_c lo _ _ _ _ hr0 (by omega) HX.out).mono ?_
          rintro e w1 ⟨r1, rfl, hb1, q0, q1, q2⟩
          have HQ2 := hide q2
          have hB : Hid (Below w.heap.size w w1) := hb.trans (hb1.mono hb.size)
          clear hb1 hb q2 HX HR HZ
          by_cases hneg : r1 < 0
          · go_wp2
            go_ret
            exact ⟨-1, rfl, hB.out, by omega, by omega, fun h => by omega⟩
          · have HL : Hid (RrSmall Xl[k]) := HQ2.out (by omega)
            clear HQ2
            go_wp2
            go_roundw
            case rel => exact ⟨_, k + 1, rfl, by omega, by omega, by go_num, by omega, hB.out, fun j hj h => by
                          by_cases e : j = k
                          · subst e; exact HL.out
                          · exact HA.out j hj (by omega)⟩
            case measure => simp [intOf]; omega
        · go_wp2
          go_ret
          exact ⟨r, rfl, hb, by omega, by omega, fun _ => ⟨by omega, fun j hj => HA.out j hj (by omega)⟩⟩
    · go_enter Try.func33, Try.ntmps33
      go_wp2
      go_ret
      exact ⟨-1, rfl, Below.refl _ _, by omega, by omega, fun h => by omega⟩

set_option maxRecDepth 20000 in
set_option maxHeartbeats 2000000 in
theorem eqRrs_same (lo lo' : Nat) (v v' : Value) (Xl : List Rr) (w : World) (hv : RrsAt lo w v Xl) (hv' : RrsAt lo' w v' Xl) :
    Calls Try.prog 24 #[v, v'] w fun e w' => e = .returned (.bool true) ∧ Below w.heap.size w w' := by
  have hm := hv.max
  unfold maxLen at hm
  have HV := hide hv
  have HW := hide hv'
  obtain ⟨a, cap, rfl⟩ := hv.form
  obtain ⟨a', cap', rfl⟩ := hv'.form
  clear hv hv'
  go_enter Try.func24, Try.ntmps24
  go_wp2
  go_loopw [5] (fun i wr => ∃ k : Nat, i = .int .i64 k ∧ k ≤ Xl.length ∧ Below w.heap.size w wr) (fun i _ => Xl.length - (intOf i).toNat)
  case atStart => exact ⟨0, rfl, by omega, Below.refl _ _⟩
  case round =>
    obtain ⟨k, rfl, hk, hb⟩ := hrel
    by_cases hlt : k < Xl.length
    · obtain ⟨b, off, rfl, hbw, -, hc⟩ := HV.out.full' (by omega)
      obtain ⟨b', off', rfl, hbw', -, hc'⟩ := HW.out.full' (by omega)
      obtain ⟨cs, hr, hx⟩ := hc k hlt
      obtain ⟨cs', hr', hx'⟩ := hc' k hlt
      have HX := hide (hx.below hb)
      have HX' := hide (hx'.below hb)
      have HB := hide hb
      have hz : (Try.prog.info? 51).map (·.size) = some cs.length := by rw [hx.len]; exact Rr_sizeI
      have hz' : (Try.prog.info? 51).map (·.size) = some cs'.length := by rw [hx'.len]; exact Rr_sizeI
      have hRr : Hid (wr.rangeAt b (off + k * 18) cs ∧ b < wr.heap.size) := ⟨rng_below hr hb hbw, Nat.lt_of_lt_of_le hbw hb.size⟩
      have hRr' : Hid (wr.rangeAt b' (off' + k * 18) cs' ∧ b' < wr.heap.size) := ⟨rng_below hr' hb hbw', Nat.lt_of_lt_of_le hbw' hb.size⟩
      have i0 : (0 : Int) ≤ (k : Int) := by omega
      have i1 : (k : Int) < (Xl.length : Int) := by omega
      have KP : Hid (∀ W, Below wr.heap.size wr W → W.rangeAt b (off + k * 18) cs ∧ W.rangeAt b' (off' + k * 18) cs') := fun W hW => ⟨rng_below hRr.out.1 hW hRr.out.2, rng_below hRr'.out.1 hW hRr'.out.2⟩
      have HZ1 := hide hz
      have HZ2 := hide hz'
      clear hc hc' hr hr' hx hx' hb hz hz' hRr hRr'
      go_wp2
      refine wp_region_held_drew (S := fun W => W.rangeAt b (off + k * 18) cs ∧ W.rangeAt b' (off' + k * 18) cs') (by kernel_rfl) (KP.out _ ((Below.refl _ _).drew)) (fun hHeld => ?_)
      refine wpAnyH_take (i := 0) (v := .slice (some ⟨b, off, none⟩) Xl.length cap) rfl (by kernel_rfl) (by kernel_rfl) (by kernel_rfl) (fun _ _ _ h => h) (Or.inl ⟨by rfl, fun W hW => by go_simp⟩) hHeld ?_
      simp only [Act.put, List.setIfInBounds_toArray]
      refine wpAnyH_take (i := 1) (v := .int .i64 k) rfl (by kernel_rfl) (by kernel_rfl) (by kernel_rfl) (fun _ _ _ h => h) (Or.inl ⟨by rfl, fun W hW => by go_simp⟩) hHeld ?_
      simp only [Act.put]
      refine wpAnyH_take (i := 2) (v := .pointer (some ⟨b, off + k * 18, none⟩)) rfl (by kernel_rfl) (by kernel_rfl) (by kernel_rfl) (fun _ _ _ h => h) (Or.inl ⟨by rfl, fun W hW => by go_simp⟩) hHeld ?_
      simp only [Act.put]
      refine wpAnyH_take (i := 3) rfl (by kernel_rfl) (by kernel_rfl) (by kernel_rfl) (fun _ _ _ h => h) (yieldsIf_load_mid (by rfl) 51 (.tmp 19) rfl b (off + k * 18) rfl cs _ (fun _ h => h.1) Try.underlying51 rfl HZ1.out) hHeld ?_
      simp only [Act.put]
      refine wpAnyH_take (i := 4) (v := (.slice (some ⟨b', off', none⟩) Xl.length cap')) rfl (by kernel_rfl) (by kernel_rfl) (by kernel_rfl) (fun _ _ _ h => h) (Or.inl ⟨by rfl, fun W hW => by go_simp⟩) hHeld ?_
      simp only [Act.put]
      refine wpAnyH_take (i := 5) (v := .int .i64 k) rfl (by kernel_rfl) (by kernel_rfl) (by kernel_rfl) (fun _ _ _ h => h) (Or.inl ⟨by rfl, fun W hW => by go_simp⟩) hHeld ?_
      simp only [Act.put]
      refine wpAnyH_take (i := 6) (v := (.pointer (some ⟨b', off' + k * 18, none⟩))) rfl (by kernel_rfl) (by kernel_rfl) (by kernel_rfl) (fun _ _ _ h => h) (Or.inl ⟨by rfl, fun W hW => by go_simp⟩) hHeld ?_
      simp only [Act.put]
      refine wpAnyH_take (i := 7) rfl (by kernel_rfl) (by kernel_rfl) (by kernel_rfl) (fun _ _ _ h => h) (yieldsIf_load_mid (by rfl) 51 (.tmp 23) rfl b' (off' + k * 18) rfl cs' _ (fun _ h => h.2) Try.underlying51 rfl HZ2.out) hHeld ?_
      simp only [Act.put]
      refine wpAnyH_ready (rs := [8]) (by kernel_rfl) (by simp) ?_
      refine AllReadyH.cons rfl (fun K hK => ?_) AllReadyH.nil
      go_simp
      refine (eqRr_c lo lo' _ _ _ _ (HX.out.below ((Below.refl _ _).drew)) (HX'.out.below ((Below.refl _ _).drew))).mono ?_
      rintro e w1 ⟨rfl, hb1⟩
      have HC1 : Hid (Below wr.heap.size wr w1) := bt ((Below.refl _ _).drew) hb1
      have hB : Hid (Below w.heap.size w w1) := bt HB.out HC1.out
      clear hb1
      try go_wp2_with fail
      refine hK.out _ _ (KP.out _ HC1.out) (fun hHeld => ?_)
      clear hK K
      try simp only [Act.put, List.setIfInBounds_toArray, List.set_cons_zero, List.set_cons_succ]
      refine wpAnyH_take (i := 9) (v := .bool false) rfl (by kernel_rfl) (by kernel_rfl) (by kernel_rfl) (fun _ _ _ h => h) (Or.inl ⟨by rfl, fun W hW => by go_simp⟩) hHeld ?_
      simp only [Act.put, List.setIfInBounds_toArray]
      refine wpAnyH_done (by kernel_rfl) ?_ _
      go_wp2
      go_roundw
      case rel => exact ⟨k + 1, by go_num, by omega, hB.out⟩
      case measure => simp [intOf]; omega
    · go_wp2
      go_ret
      exact ⟨rfl, hb⟩

def RrsFill (wr : World) (B : Nat) (Xl : List Rr) (k : Nat) : Prop :=
  B < wr.heap.size ∧ wr.there B 0 (Xl.length * 18) ∧ ∀ i (h : i < Xl.length), i < k → ∃ cs, wr.rangeAt B (i * 18) cs ∧ RrC (B + 1) wr cs Xl[i]
theorem RrsFill.below {wr w1 : World} {B : Nat} {Xl : List Rr} {k : Nat} (h : RrsFill wr B Xl k) (hb : Below wr.heap.size wr w1) : RrsFill w1 B Xl k := by
  obtain ⟨h1, h2, h3⟩ := h
  refine ⟨Nat.lt_of_lt_of_le h1 hb.size, there_below h2 hb h1, fun i hi hik => ?_⟩
  obtain ⟨cs, hr, hc⟩ := h3 i hi hik
  exact ⟨cs, rng_below hr hb h1, hc.below hb⟩
theorem RrsFill.step {w1 : World} {B : Nat} {Xl : List Rr} {k : Nat} {cs : List Value} (h : RrsFill w1 B Xl k) (hk : k < Xl.length) (hc : RrC (B + 1) w1 cs Xl[k]) :
    RrsFill (w1.setCells B (k * 18) cs) B Xl (k + 1) := by
  obtain ⟨h1, h2, h3⟩ := h
  have hl := hc.len
  refine ⟨by rw [size_sets]; exact h1, World.there_setCells h2 _ _ _, fun i hi hik => ?_⟩
  by_cases e : i = k
  · subst e
    exact ⟨cs, World.rangeAt_setCells_same _ _ _ _ (by rw [hl]; exact there_part h2 (by omega)), hc.sets (by omega) _ _⟩
  · obtain ⟨cs', hr, hc'⟩ := h3 i hi (by omega)
    have hl' := hc'.len
    exact ⟨cs', World.rangeAt_setCells_apart hr _ _ _ (by omega), hc'.sets (by omega) _ _⟩
theorem RrsFill.done {wr : World} {B : Nat} {Xl : List Rr} {k : Nat} (h : RrsFill wr B Xl k) (hk : Xl.length ≤ k) (hm : Xl.length ≤ maxLen) : RrsAt B wr (.slice (some ⟨B, 0, none⟩) Xl.length Xl.length) Xl := by
  by_cases hne : Xl = []
  · subst hne
    exact Or.inl ⟨_, _, rfl, rfl⟩
  obtain ⟨h1, h2, h3⟩ := h
  refine Or.inr ⟨B, 0, Xl.length, rfl, hne, hm, h1, Nat.le_refl _, Nat.le_refl _, fun i hi => ?_⟩
  obtain ⟨cs, hr, hc⟩ := h3 i hi (by omega)
  rw [Nat.zero_add]
  exact ⟨cs, hr, hc.mono (by omega)⟩
theorem Rr_info : (Try.prog.info? 51).map (fun i => (i.zero, i.size, i.bytes)) = some (some (.agg #[.int .i64 0, .int .i64 0, .bool false, .int .i64 0, .int .i64 0, .slice none 0 0, .int .i64 0, .int .i64 0, .slice none 0 0, .slice none 0 0, .slice none 0 0, .bool false, .bool false, .int .i64 0, .slice none 0 0, .slice none 0 0, .slice none 0 0, .int .i64 0]), 18, 248) := by kernel_rfl
theorem RrsFill.new (w : World) (Xl : List Rr) (z : Array Value) : RrsFill (w.alloc (.cells (madeCells z (Xl.length * 18)) 51)) w.heap.size Xl 0 :=
  ⟨by simp, there_made w _ _ _ (size_madeCells _ _), fun i _ h => by omega⟩

set_option maxHeartbeats 2000000 in
theorem toRrs_any (lo : Nat) (v : Value) (Xl : List Rr) (w : World) (hv : RrsAt lo w v Xl) (hn : RrsSmall Xl) :
    Calls Try.prog 38 #[v] w fun e w' => ∃ v', e = .returned v' ∧ Below w.heap.size w w' ∧ RrsAt w.heap.size w' v' Xl := by
  obtain ⟨i0, hi, hz0, hz1, hz2⟩ := info_parts Rr_info
  have HSM := hide hn.2
  have hn1 := hn.1
  have HM := hide hv.max
  have HV := hide hv
  obtain ⟨a, cap, rfl⟩ := hv.form
  clear hn hv
  have hmk : ∀ u : World, (Instr.makeSlice 22 (.int .i64 (Xl.length : Int)) (.int .i64 (Xl.length : Int))).run Try.prog u = .ok (.slice (some ⟨u.heap.size, 0, none⟩) Xl.length Xl.length) (u.alloc (.cells (madeCells (Value.cells (.agg #[.int .i64 0, .int .i64 0, .bool false, .int .i64 0, .int .i64 0, .slice none 0 0, .int .i64 0, .int .i64 0, .slice none 0 0, .slice none 0 0, .slice none 0 0, .bool false, .bool false, .int .i64 0, .slice none 0 0, .slice none 0 0, .slice none 0 0, .int .i64 0])) (Xl.length * 18)) 51)) := fun u => by
    have h := run_make (P := Try.prog) u 22 51 i0 _ Try.underlying22 hi hz0 .i64 .i64 Xl.length Xl.length (by omega) (by omega) (by rw [hz2]; omega) (by omega)
    rw [hz1] at h
    simpa using h
  clear hi hz0 hz1 hz2
  go_enter Try.func38, Try.ntmps38
  go_wp2
  clear hmk
  go_loopw [4] (fun i wr => ∃ k : Nat, i = .int .i64 k ∧ k ≤ Xl.length ∧ Below w.heap.size w wr ∧ RrsFill wr w.heap.size Xl k) (fun i _ => Xl.length - (intOf i).toNat)
  case atStart => exact ⟨0, rfl, by omega, (Below.refl _ _).alloc (Nat.le_refl _) _, RrsFill.new w Xl _⟩
  case round =>
    obtain ⟨k, rfl, hk, hb, hf⟩ := hrel
    by_cases hlt : k < Xl.length
    · obtain ⟨b, off, rfl, hbw, -, hc⟩ := HV.out.full' (by omega)
      obtain ⟨cs, hr, hx⟩ := hc k hlt
      have hBl : w.heap.size < wr.heap.size := hf.1
      have HX := hide (hx.below hb)
      have HR := hide (rng_below hr hb hbw)
      have HZ : Hid ((Try.prog.info? 97).map (·.size) = some cs.length) := by unfold Hid; rw [hx.len]; exact Rr_sizeL
      have HF := hide hf
      have HB := hide hb
      clear hc hr hx hf hb
      go_wp2_with (refine wpList_load_mid rfl 97 (.tmp 18) rfl b (off + k * 18) rfl cs _ HR.out Try.underlying97 rfl HZ.out ?_)
      refine (toRr_c lo _ _ _ HX.out (HSM.out k hlt)).mono ?_
      rintro e w1 ⟨cz, rfl, hb1, hz⟩
      have hf1 := HF.out.below hb1
      have HC := hide (hz.mono (show w.heap.size + 1 ≤ wr.heap.size by omega))
      have HST := hide (hf1.step hlt HC.out)
      have HT := hide (there_part (o := k * 18) (m := 18) hf1.2.1 (by omega))
      have hB : Hid (Below w.heap.size w w1) := HB.out.trans (hb1.mono HB.out.size)
      have hcz : cz.toArray.size = 18 := List.size_toArray.trans HC.out.len
      have HZ1 : Hid ((Try.prog.info? 51).map (·.size) = some cz.toArray.size) := by unfold Hid; rw [hcz]; exact Rr_sizeI
      have HT1 : Hid (w1.there w.heap.size (k * 18) cz.toArray.size) := by unfold Hid; rw [hcz]; exact HT.out
      clear hf1 hb1 hz HX HR HZ HF HB HT hBl hcz
      go_wp2_with (refine wpList_store_mid rfl 51 (.tmp 21) (.tmp 20) rfl w.heap.size (k * 18) cz.toArray (by simp [Act.eval, go_sem]) rfl HT1.out HZ1.out HC.out.one ?_)
      go_roundw
      case rel =>
        exact ⟨k + 1, by go_num, by omega, Below.sets (Nat.le_refl _) _ _ hB.out, HST.out⟩
      case measure => simp [intOf]; omega
    · go_wp2
      go_ret
      exact ⟨_, rfl, hb, hf.done (by omega) HM.out⟩
end Go.Proofs.Ytoklnkojacdciaa
