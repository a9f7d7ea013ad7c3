
import Derived.Test.YtfajekibnjdlmabDoorT4
namespace Go.Proofs.YtfajekibnjdlmabDoor
open Go.RowKit Go.Deep

structure RuCells (w : World) (b o : Nat) (r : Ru) (vv : Value) : Prop where
  c0 : w.cell? ⟨b, o, none⟩ = some vv
  c1 : w.cell? ⟨b, o + 1, none⟩ = some (.string r.kd)
  c2 : w.cell? ⟨b, o + 2, none⟩ = some (.string r.tm)
  c3 : w.cell? ⟨b, o + 3, none⟩ = some (.string r.pf)
theorem RuCells.below {w w' : World} {b o : Nat} {r : Ru} {vv : Value} (h : RuCells w b o r vv) (hb : Below w.heap.size w w') (hlt : b < w.heap.size) : RuCells w' b o r vv := by
  have e : ∀ o, w'.cell? ⟨b, o, none⟩ = w.cell? ⟨b, o, none⟩ := fun o => hb.cell (p := ⟨b, o, none⟩) hlt
  exact ⟨by rw [e]; exact h.c0, by rw [e]; exact h.c1, by rw [e]; exact h.c2, by rw [e]; exact h.c3⟩
/-- A []GateRule THAT HOLDS Rs; its cells lie from block lo on. -/
def RusAt (lo : Nat) (w : World) (v : Value) (Rs : List Ru) : Prop :=
  (∃ (a : Option Addr) (cap : Nat), v = .slice a 0 cap ∧ Rs = []) ∨
  ∃ (b off cap : Nat), v = .slice (some ⟨b, off, none⟩) Rs.length cap ∧ Rs ≠ [] ∧ Rs.length ≤ maxLen ∧ b < w.heap.size ∧ lo ≤ b ∧ Rs.length ≤ cap ∧
    ∀ i (h : i < Rs.length), RuSize Rs[i] ∧ ∃ vv, RuCells w b (off + i * 4) Rs[i] vv ∧ IntsIn lo w vv Rs[i].vb
theorem RusAt.below {lo : Nat} {w w' : World} {v : Value} {Rs : List Ru} (h : RusAt lo w v Rs) (hb : Below w.heap.size w w') : RusAt lo w' v Rs := by
  rcases h with h | ⟨b, off, cap, h1, h2, h3, h4, h5, h6, h7⟩
  · exact Or.inl h
  · refine Or.inr ⟨b, off, cap, h1, h2, h3, Nat.lt_of_lt_of_le h4 hb.size, h5, h6, fun i hi => ?_⟩
    obtain ⟨hs, vv, hc, hv⟩ := h7 i hi
    exact ⟨hs, vv, hc.below hb h4, hv.below hb⟩
theorem RusAt.mono {lo lo' : Nat} {w : World} {v : Value} {Rs : List Ru} (h : RusAt lo w v Rs) (hl : lo' ≤ lo) : RusAt lo' w v Rs := by
  rcases h with h | ⟨b, off, cap, h1, h2, h3, h4, h5, h6, h7⟩
  · exact Or.inl h
  · refine Or.inr ⟨b, off, cap, h1, h2, h3, h4, Nat.le_trans hl h5, h6, fun i hi => ?_⟩
    obtain ⟨hs, vv, hc, hv⟩ := h7 i hi
    exact ⟨hs, vv, hc, hv.mono hl⟩
theorem RusAt.form {lo : Nat} {w : World} {v : Value} {Rs : List Ru} (h : RusAt lo w v Rs) : ∃ a cap, v = .slice a Rs.length cap := by
  rcases h with ⟨a, cap, h, rfl⟩ | ⟨b, off, cap, h, _⟩
  · exact ⟨a, cap, h⟩
  · exact ⟨_, cap, h⟩
theorem RusAt.max {lo : Nat} {w : World} {v : Value} {Rs : List Ru} (h : RusAt lo w v Rs) : Rs.length ≤ maxLen := by
  rcases h with ⟨a, cap, h, rfl⟩ | ⟨b, off, cap, h, _, h3, _⟩
  · exact Nat.zero_le _
  · exact h3
theorem RusAt.full {lo : Nat} {w : World} {v : Value} {Rs : List Ru} (h : RusAt lo w v Rs) (hne : Rs ≠ []) : ∃ (b off cap : Nat), v = .slice (some ⟨b, off, none⟩) Rs.length cap ∧ Rs.length ≤ maxLen ∧ b < w.heap.size ∧ Rs.length ≤ cap ∧
    ∀ i (h : i < Rs.length), RuSize Rs[i] ∧ ∃ vv, RuCells w b (off + i * 4) Rs[i] vv ∧ IntsIn lo w vv Rs[i].vb := by
  rcases h with ⟨_, _, _, h⟩ | ⟨b, off, cap, h1, _, h3, h4, _, h6, h7⟩
  · exact absurd h hne
  · exact ⟨b, off, cap, h1, h3, h4, h6, h7⟩
theorem RusAt.full' {lo : Nat} {w : World} {a : Option Addr} {n cap : Nat} {Rs : List Ru} (h : RusAt lo w (.slice a n cap) Rs) (hL : 0 < Rs.length) :
    ∃ b off, a = some ⟨b, off, none⟩ ∧ b < w.heap.size ∧ ∀ i (h : i < Rs.length), RuSize Rs[i] ∧ ∃ vv, RuCells w b (off + i * 4) Rs[i] vv ∧ IntsIn lo w vv Rs[i].vb := by
  rcases h with ⟨a', cap', h, rfl⟩ | ⟨b', off', cap', h1, h2, h3, h4, h5, h6, h7⟩
  · simp at hL
  · injection h1 with e1 e2 e3
    exact ⟨b', off', e1, h4, h7⟩
def RusSmall (Rs : List Ru) : Prop := Rs.length ≤ 1048576 ∧ ∀ i (h : i < Rs.length), Rs[i].vb.length ≤ 1048576
def SzRus (Rs : List Ru) (left r : Int) : Prop := -1 ≤ r ∧ r ≤ left ∧ (0 ≤ r → RusSmall Rs)

set_option maxHeartbeats 1000000 in
theorem szRus_any (lo : Nat) (v : Value) (Rs : List Ru) (left : Int) (w : World) (h0 : 0 ≤ left) (h1 : left ≤ 1048576) (hv : RusAt lo w v Rs) :
    Calls Tryd.prog 5 #[v, .int .i64 left] w fun e w' => ∃ r : Int, e = .returned (.int .i64 r) ∧ Below w.heap.size w w' ∧ SzRus Rs left r := by
  rcases hv with ⟨a, cap, rfl, rfl⟩ | ⟨b, off, cap, rfl, hne, hm, hbw, _, _, hc⟩
  · go_enter Tryd.func5, Tryd.ntmps5
    go_wp2
    go_loop [1, 5] (fun l i => ∃ r : Int, l = .int .i64 r ∧ 0 ≤ r ∧ r ≤ left ∧ i = .int .i64 0) (fun _ _ => 0)
    case atStart => exact ⟨_, rfl, by omega, by omega, rfl⟩
    case round =>
      obtain ⟨r, rfl, hr0, hr1, rfl⟩ := hrel
      go_wp2
      go_ret
      exact ⟨r, rfl, Below.refl _ _, by omega, by omega, fun _ => ⟨by simp, fun i h => by simp at h⟩⟩
  · unfold maxLen at hm
    by_cases hle : (Rs.length : Int) ≤ left
    · go_enter Tryd.func5, Tryd.ntmps5
      go_wp2
      go_loopw [1, 5] (fun l i wr => ∃ (r : Int) (k : Nat), l = .int .i64 r ∧ 0 ≤ r ∧ r ≤ left ∧ i = .int .i64 k ∧ k ≤ Rs.length ∧ Below w.heap.size w wr ∧ ∀ j (hj : j < Rs.length), j < k → Rs[j].vb.length ≤ 1048576) (fun _ i _ => Rs.length - (intOf i).toNat)
      case atStart => exact ⟨_, 0, rfl, by omega, by omega, rfl, by omega, Below.refl _ _, fun j _ h => by omega⟩
      case round =>
        obtain ⟨r, k, rfl, hr0, hr1, rfl, hk, hb, hall⟩ := hrel
        have HA := hide hall
        clear hall
        by_cases hlt : k < Rs.length
        · obtain ⟨hsz, vv, hcell, hvv⟩ := hc k hlt
          have HVV := hide (hvv.below hb)
          obtain ⟨va, vcap, rfl⟩ := hvv.form
          obtain ⟨c0, c1, c2, c3⟩ := hcell.below hb hbw
          clear hcell hvv
          go_wp2_with fail
          refine (szRule_any lo _ _ _ _ hr0 (by omega) HVV.out hsz).mono ?_
          rintro e w1 ⟨r1, rfl, hb1, q0, q1, q2⟩
          have HQ2 := hide q2
          have hB : Hid (Below w.heap.size w w1) := hb.trans (hb1.mono hb.size)
          clear hb1 c0 c1 c2 c3 hb q2 HVV
          by_cases hneg : r1 < 0
          · go_wp2
            go_ret
            exact ⟨-1, rfl, hB.out, by omega, by omega, fun h => by omega⟩
          · have HL : Hid (Rs[k].vb.length ≤ 1048576) := by have := HQ2.out (by omega); unfold Hid; omega
            clear HQ2
            go_wp2
            go_roundw
            case rel => exact ⟨_, k + 1, rfl, by omega, by omega, by go_num, by omega, hB.out, fun j hj h => by
                          by_cases e : j = k
                          · subst e; exact HL.out
                          · exact HA.out j hj (by omega)⟩
            case measure => simp [intOf]; omega
        · go_wp2
          go_ret
          exact ⟨r, rfl, hb, by omega, by omega, fun _ => ⟨by omega, fun j hj => HA.out j hj (by omega)⟩⟩
    · go_enter Tryd.func5, Tryd.ntmps5
      go_wp2
      go_ret
      exact ⟨-1, rfl, Below.refl _ _, by omega, by omega, fun h => by omega⟩

set_option maxHeartbeats 1000000 in
theorem eqRus_same (lo lo' : Nat) (v v' : Value) (Rs : List Ru) (w : World) (hv : RusAt lo w v Rs) (hv' : RusAt lo' w v' Rs) :
    Calls Tryd.prog 14 #[v, v'] w fun e w' => e = .returned (.bool true) ∧ Below w.heap.size w w' := by
  by_cases hL : Rs = []
  · subst hL
    obtain ⟨a, cap, rfl⟩ := hv.form
    obtain ⟨a', cap', rfl⟩ := hv'.form
    clear hv hv'
    go_enter Tryd.func14, Tryd.ntmps14
    go_wp2
    go_loop [5] (fun i => i = .int .i64 0) (fun _ => 0)
    case atStart => rfl
    case round =>
      subst hrel
      go_wp2
      go_ret
      exact ⟨rfl, Below.refl _ _⟩
  · obtain ⟨b, off, cap, rfl, hm, hbw, _, hc⟩ := hv.full hL
    obtain ⟨b', off', cap', rfl, _, hbw', _, hc'⟩ := hv'.full hL
    clear hv hv'
    unfold maxLen at hm
    go_enter Tryd.func14, Tryd.ntmps14
    go_wp2
    go_loopw [5] (fun i wr => ∃ k : Nat, i = .int .i64 k ∧ k ≤ Rs.length ∧ Below w.heap.size w wr) (fun i _ => Rs.length - (intOf i).toNat)
    case atStart => exact ⟨0, rfl, by omega, Below.refl _ _⟩
    case round =>
      obtain ⟨k, rfl, hk, hb⟩ := hrel
      by_cases hlt : k < Rs.length
      · obtain ⟨_, vv, hcell, hvv⟩ := hc k hlt
        obtain ⟨_, vv', hcell', hvv'⟩ := hc' k hlt
        obtain ⟨va, vcap, rfl⟩ := hvv.form
        obtain ⟨va', vcap', rfl⟩ := hvv'.form
        obtain ⟨c0, c1, c2, c3⟩ := hcell.below hb hbw
        obtain ⟨d0, d1, d2, d3⟩ := hcell'.below hb hbw'
        have HVV := hide (hvv.below hb)
        have HVV' := hide (hvv'.below hb)
        clear hcell hcell' hvv hvv'
        have HB := hide hb
        clear hb
        go_wp2
        go_region_with (go_at_call 15; refine (eqRule_same lo lo' _ _ _ _ (HVV.out.below ((Below.refl _ _).drew)) (HVV'.out.below ((Below.refl _ _).drew))).mono ?_; rintro e w1 ⟨rfl, hb1⟩; have hB : Hid (Below w.heap.size w w1) := (HB.out.drew).trans (hb1.mono HB.out.size); clear hb1)
        all_goals go_wp2
        all_goals go_roundw
        all_goals first
          | (case rel => exact ⟨k + 1, by go_num, by omega, hB.out⟩)
          | (case measure => simp [intOf]; omega)
      · go_wp2
        go_ret
        exact ⟨rfl, hb⟩

theorem Tryd.info38 : (Tryd.prog.info? 38).map (fun i => (i.zero, i.size, i.bytes)) = some (some (.agg #[.slice none 0 0, .string ⟨#[]⟩, .string ⟨#[]⟩, .string ⟨#[]⟩]), 4, 72) := by kernel_rfl
def RusFill (wr : World) (B : Nat) (Rs : List Ru) (k : Nat) : Prop :=
  ∃ f, wr.rowIs B 38 (Rs.length * 4) f ∧ ∀ i (h : i < Rs.length), i < k → RuSize Rs[i] ∧ ∃ vv, f (i * 4) = vv ∧ f (i * 4 + 1) = .string Rs[i].kd ∧ f (i * 4 + 2) = .string Rs[i].tm ∧ f (i * 4 + 3) = .string Rs[i].pf ∧ IntsIn (B + 1) wr vv Rs[i].vb
theorem RusFill.below {wr w1 : World} {B : Nat} {Rs : List Ru} {k : Nat} (h : RusFill wr B Rs k) (hb : Below wr.heap.size wr w1) : RusFill w1 B Rs k := by
  obtain ⟨f, hr, hall⟩ := h
  refine ⟨f, hr.of_block (hb.block B hr.lt), fun i hi hik => ?_⟩
  obtain ⟨hz, vv, h0, h1, h2, h3, hv⟩ := hall i hi hik
  exact ⟨hz, vv, h0, h1, h2, h3, hv.below hb⟩
theorem RusFill.free {wr : World} {B : Nat} {Rs : List Ru} {k : Nat} (h : RusFill wr B Rs k) (i : Nat) : wr.frozen? ⟨B, i, none⟩ = false := by
  obtain ⟨f, hr, _⟩ := h
  exact hr.frozen i
theorem RusFill.there {wr : World} {B : Nat} {Rs : List Ru} {k : Nat} (h : RusFill wr B Rs k) (i : Nat) (hi : i < Rs.length * 4) : ∃ v, wr.cell? ⟨B, i, none⟩ = some v := by
  obtain ⟨f, hr, _⟩ := h
  exact ⟨_, hr.cell hi⟩
theorem RusFill.step {w1 : World} {B : Nat} {Rs : List Ru} {k : Nat} {vv : Value} (h : RusFill w1 B Rs k) (hk : k < Rs.length) (hz : RuSize Rs[k]) (hv : IntsIn (B + 1) w1 vv Rs[k].vb) :
    RusFill ((((w1.setCell ⟨B, k * 4, none⟩ vv).setCell ⟨B, k * 4 + 1, none⟩ (.string Rs[k].kd)).setCell ⟨B, k * 4 + 2, none⟩ (.string Rs[k].tm)).setCell ⟨B, k * 4 + 3, none⟩ (.string Rs[k].pf)) B Rs (k + 1) := by
  obtain ⟨f, hr, hall⟩ := h
  refine ⟨_, ((((hr.set _ _).set _ _).set _ _).set _ _), fun i hi hik => ?_⟩
  by_cases e : i = k
  · subst e
    refine ⟨hz, vv, by simp, by simp, by simp, by simp, ?_⟩
    repeat (refine IntsIn.setCell ?_ (by simp only []; omega) _)
    exact hv
  · obtain ⟨hz', vv', h0, h1, h2, h3, hv'⟩ := hall i hi (by omega)
    refine ⟨hz', vv', ?_, ?_, ?_, ?_, ?_⟩
    · rw [if_neg (by omega), if_neg (by omega), if_neg (by omega), if_neg (by omega)]; exact h0
    · rw [if_neg (by omega), if_neg (by omega), if_neg (by omega), if_neg (by omega)]; exact h1
    · rw [if_neg (by omega), if_neg (by omega), if_neg (by omega), if_neg (by omega)]; exact h2
    · rw [if_neg (by omega), if_neg (by omega), if_neg (by omega), if_neg (by omega)]; exact h3
    · repeat (refine IntsIn.setCell ?_ (by simp only []; omega) _)
      exact hv'
theorem RusFill.done {wr : World} {B : Nat} {Rs : List Ru} {k : Nat} (h : RusFill wr B Rs k) (hk : Rs.length ≤ k) (hne : Rs ≠ []) (hm : Rs.length ≤ maxLen) : RusAt B wr (.slice (some ⟨B, 0, none⟩) Rs.length Rs.length) Rs := by
  obtain ⟨f, hr, hall⟩ := h
  refine Or.inr ⟨B, 0, Rs.length, rfl, hne, hm, hr.lt, Nat.le_refl _, Nat.le_refl _, fun i hi => ?_⟩
  obtain ⟨hz, vv, h0, h1, h2, h3, hv⟩ := hall i hi (by omega)
  rw [Nat.zero_add]
  exact ⟨hz, vv, ⟨by rw [hr.cell (by omega), h0], by rw [hr.cell (by omega), h1], by rw [hr.cell (by omega), h2], by rw [hr.cell (by omega), h3]⟩, hv.mono (by omega)⟩
theorem RusFill.new (w : World) (Rs : List Ru) (z : Array Value) : RusFill (w.alloc (.cells (madeCells z (Rs.length * 4)) 38)) w.heap.size Rs 0 := by
  refine ⟨fun i => (madeCells z (Rs.length * 4)).getD i default, ?_, fun i _ h => by omega⟩
  have := World.rowIs_alloc w (madeCells z (Rs.length * 4)) 38 (fun i => (madeCells z (Rs.length * 4)).getD i default) (fun i hi => by simp [Array.getD, hi])
  rwa [size_madeCells] at this

set_option maxHeartbeats 1000000 in
theorem toRus_any (lo : Nat) (v : Value) (Rs : List Ru) (w : World) (hv : RusAt lo w v Rs) (hn : RusSmall Rs) :
    Calls Tryd.prog 9 #[v] w fun e w' => ∃ v', e = .returned v' ∧ Below w.heap.size w w' ∧ RusAt w.heap.size w' v' Rs := by
  obtain ⟨i0, hi, hz0, hz1, hz2⟩ := info_parts Tryd.info38
  have HSM := hide hn.2
  have hn1 := hn.1
  clear hn
  by_cases hL : Rs = []
  · subst hL
    obtain ⟨a, cap, rfl⟩ := hv.form
    clear hv
    have hmk : ∀ u : World, (Instr.makeSlice 36 (.int .i64 0) (.int .i64 0)).run Tryd.prog u = .ok (.slice (some ⟨u.heap.size, 0, none⟩) 0 0) (u.alloc (.cells (madeCells (Value.cells (.agg #[.slice none 0 0, .string ⟨#[]⟩, .string ⟨#[]⟩, .string ⟨#[]⟩])) 0) 38)) := fun u => by
      have h := run_make (P := Tryd.prog) u 36 38 i0 _ Tryd.underlying36 hi hz0 .i64 .i64 0 0 (by omega) (by omega) (by omega) (by omega)
      simpa [hz1] using h
    go_enter Tryd.func9, Tryd.ntmps9
    go_wp2
    go_loop [4] (fun i => i = .int .i64 0) (fun _ => 0)
    case atStart => rfl
    case round =>
      subst hrel
      go_wp2
      go_ret
      exact ⟨_, rfl, (Below.refl _ _).alloc (Nat.le_refl _) _, Or.inl ⟨_, _, rfl, rfl⟩⟩
  · obtain ⟨b, off, cap, rfl, hm, hbw, _, hc⟩ := hv.full hL
    clear hv
    have HM : Hid (Rs.length ≤ maxLen) := hm
    unfold maxLen at hm
    have hmk : ∀ u : World, (Instr.makeSlice 36 (.int .i64 (Rs.length : Int)) (.int .i64 (Rs.length : Int))).run Tryd.prog u = .ok (.slice (some ⟨u.heap.size, 0, none⟩) Rs.length Rs.length) (u.alloc (.cells (madeCells (Value.cells (.agg #[.slice none 0 0, .string ⟨#[]⟩, .string ⟨#[]⟩, .string ⟨#[]⟩])) (Rs.length * 4)) 38)) := fun u => by
      have h := run_make (P := Tryd.prog) u 36 38 i0 _ Tryd.underlying36 hi hz0 .i64 .i64 Rs.length Rs.length (by omega) (by omega) (by rw [hz2]; omega) (by omega)
      rw [hz1] at h
      simpa using h
    clear hi hz0 hz1 hz2
    go_enter Tryd.func9, Tryd.ntmps9
    go_wp2
    clear hmk
    go_loopw [4] (fun i wr => ∃ k : Nat, i = .int .i64 k ∧ k ≤ Rs.length ∧ Below w.heap.size w wr ∧ RusFill wr w.heap.size Rs k) (fun i _ => Rs.length - (intOf i).toNat)
    case atStart => exact ⟨0, rfl, by omega, (Below.refl _ _).alloc (Nat.le_refl _) _, RusFill.new w Rs _⟩
    case round =>
      obtain ⟨k, rfl, hk, hb, hf⟩ := hrel
      by_cases hlt : k < Rs.length
      · obtain ⟨hsz, vv, hcell, hvv⟩ := hc k hlt
        have HVV := hide (hvv.below hb)
        obtain ⟨va, vcap, rfl⟩ := hvv.form
        obtain ⟨c0, c1, c2, c3⟩ := hcell.below hb hbw
        have hBl : w.heap.size < wr.heap.size := by
          obtain ⟨_, hr, _⟩ := hf
          exact hr.lt
        clear hcell hvv
        go_wp2_with fail
        refine (toRule_any lo _ _ _ HVV.out (HSM.out k hlt)).mono ?_
        rintro e w1 ⟨v1, rfl, hb1, hs1⟩
        obtain ⟨a1, cap1, rfl⟩ := hs1.form
        have hf1 := hf.below hb1
        have HST := hide (hf1.step hlt hsz (hs1.mono (by omega)))
        have hB : Hid (Below w.heap.size w w1) := hb.trans (hb1.mono hb.size)
        have hfr := hf1.free
        obtain ⟨o0, ho0⟩ := hf1.there (k * 4) (by omega)
        obtain ⟨o1, ho1⟩ := hf1.there (k * 4 + 1) (by omega)
        obtain ⟨o2, ho2⟩ := hf1.there (k * 4 + 2) (by omega)
        obtain ⟨o3, ho3⟩ := hf1.there (k * 4 + 3) (by omega)
        clear hf hf1 hb1 hb c0 c1 c2 c3 hs1 HVV
        go_wp2
        go_roundw
        case rel =>
          exact ⟨k + 1, by go_num, by omega, (((hB.out.setCell (Nat.le_refl _) _).setCell (Nat.le_refl _) _).setCell (Nat.le_refl _) _).setCell (Nat.le_refl _) _, HST.out⟩
        case measure => simp [intOf]; omega
      · go_wp2
        go_ret
        exact ⟨_, rfl, hb, hf.done (by omega) hL HM.out⟩
end Go.Proofs.YtfajekibnjdlmabDoor
