import Derived.Test.YtmaagbnjpdijnaaNA
import Derived.Test.YtmaagbnjpdijnaaK3
namespace Go.Proofs.Ytmaagbnjpdijnaa
open Go.RowKit Go.Deep

theorem Try.info66 : (Try.prog.info? 66).map (fun i => (i.zero, i.size, i.bytes)) = some (some (.agg #[.string ⟨#[]⟩, .string ⟨#[]⟩, .string ⟨#[]⟩, .string ⟨#[]⟩, .string ⟨#[]⟩, .string ⟨#[]⟩]), 6, 96) := by kernel_rfl

theorem MdsAt.setCell {lo : Nat} {w : World} {v : Value} {Ms : List Md} (h : MdsAt lo w v Ms) {p : Addr} (hp : p.block < lo) (u : Value) : MdsAt lo (w.setCell p u) v Ms := by
  rcases h with h | ⟨b, off, cap, h1, h2, h3, h4, h5, h6, h7⟩
  · exact Or.inl h
  · refine Or.inr ⟨b, off, cap, h1, h2, h3, by simpa [World.setCell] using h4, h5, h6, fun i hi => ?_⟩
    obtain ⟨hs, hc⟩ := h7 i hi
    have e : ∀ o, (w.setCell p u).cell? ⟨b, o, none⟩ = w.cell? ⟨b, o, none⟩ := fun o => cell_setCell_ne _ _ _ _ (by show b ≠ p.block; omega)
    exact ⟨hs, by rw [e]; exact hc.c0, by rw [e]; exact hc.c1, by rw [e]; exact hc.c2, by rw [e]; exact hc.c3, by rw [e]; exact hc.c4, by rw [e]; exact hc.c5⟩

def MdsFill (wr : World) (B : Nat) (Ms : List Md) (k : Nat) : Prop :=
  ∃ f, wr.rowIs B 66 (Ms.length * 6) f ∧ ∀ i (h : i < Ms.length), i < k → MdSize Ms[i] ∧ f (i * 6) = .string Ms[i].kind ∧ f (i * 6 + 1) = .string Ms[i].field ∧ f (i * 6 + 2) = .string Ms[i].wh ∧ f (i * 6 + 3) = .string Ms[i].is ∧ f (i * 6 + 4) = .string Ms[i].put ∧ f (i * 6 + 5) = .string Ms[i].fr
theorem MdsFill.below {wr w1 : World} {B : Nat} {Ms : List Md} {k : Nat} (h : MdsFill wr B Ms k) (hb : Below wr.heap.size wr w1) : MdsFill w1 B Ms k := by
  obtain ⟨f, hr, hall⟩ := h
  exact ⟨f, hr.of_block (hb.block B hr.lt), hall⟩
theorem MdsFill.free {wr : World} {B : Nat} {Ms : List Md} {k : Nat} (h : MdsFill wr B Ms k) (i : Nat) : wr.frozen? ⟨B, i, none⟩ = false := by
  obtain ⟨f, hr, _⟩ := h
  exact hr.frozen i
theorem MdsFill.there {wr : World} {B : Nat} {Ms : List Md} {k : Nat} (h : MdsFill wr B Ms k) (i : Nat) (hi : i < Ms.length * 6) : ∃ v, wr.cell? ⟨B, i, none⟩ = some v := by
  obtain ⟨f, hr, _⟩ := h
  exact ⟨_, hr.cell hi⟩
theorem MdsFill.lt {wr : World} {B : Nat} {Ms : List Md} {k : Nat} (h : MdsFill wr B Ms k) : B < wr.heap.size := by
  obtain ⟨f, hr, _⟩ := h
  exact hr.lt
theorem MdsFill.step {w1 : World} {B : Nat} {Ms : List Md} {k : Nat} (h : MdsFill w1 B Ms k) (hk : k < Ms.length) (hz : MdSize Ms[k]) :
    MdsFill ((((((w1.setCell ⟨B, k * 6, none⟩ (.string Ms[k].kind)).setCell ⟨B, k * 6 + 1, none⟩ (.string Ms[k].field)).setCell ⟨B, k * 6 + 2, none⟩ (.string Ms[k].wh)).setCell ⟨B, k * 6 + 3, none⟩ (.string Ms[k].is)).setCell ⟨B, k * 6 + 4, none⟩ (.string Ms[k].put)).setCell ⟨B, k * 6 + 5, none⟩ (.string Ms[k].fr)) B Ms (k + 1) := by
  obtain ⟨f, hr, hall⟩ := h
  refine ⟨_, ((((((hr.set _ _).set _ _).set _ _).set _ _).set _ _).set _ _), fun i hi hik => ?_⟩
  by_cases e : i = k
  · subst e
    exact ⟨hz, by simp, by simp, by simp, by simp, by simp, by simp⟩
  · obtain ⟨hz', h0, h1, h2, h3, h4, h5⟩ := hall i hi (by omega)
    refine ⟨hz', ?_, ?_, ?_, ?_, ?_, ?_⟩
    · rw [if_neg (by omega), if_neg (by omega), if_neg (by omega), if_neg (by omega), if_neg (by omega), if_neg (by omega)]; exact h0
    · rw [if_neg (by omega), if_neg (by omega), if_neg (by omega), if_neg (by omega), if_neg (by omega), if_neg (by omega)]; exact h1
    · rw [if_neg (by omega), if_neg (by omega), if_neg (by omega), if_neg (by omega), if_neg (by omega), if_neg (by omega)]; exact h2
    · rw [if_neg (by omega), if_neg (by omega), if_neg (by omega), if_neg (by omega), if_neg (by omega), if_neg (by omega)]; exact h3
    · rw [if_neg (by omega), if_neg (by omega), if_neg (by omega), if_neg (by omega), if_neg (by omega), if_neg (by omega)]; exact h4
    · rw [if_neg (by omega), if_neg (by omega), if_neg (by omega), if_neg (by omega), if_neg (by omega), if_neg (by omega)]; exact h5
/-- A []GateMend OF n MENDS THAT MAY BE WRITTEN. -/
def MdsW (lo hi : Nat) (w : World) (v : Value) (n : Nat) : Prop :=
  (∃ (a : Option Addr) (cap : Nat), v = .slice a 0 cap ∧ n = 0) ∨
  ∃ (b off cap : Nat), v = .slice (some ⟨b, off, none⟩) n cap ∧ 0 < n ∧ n ≤ maxLen ∧ lo ≤ b ∧ b < hi ∧ b < w.heap.size ∧ (∀ i, i < n * 6 → (w.cell? ⟨b, off + i, none⟩).isSome = true) ∧ ∀ i, w.frozen? ⟨b, i, none⟩ = false
theorem MdsW.kept {lo hi lo' hi' : Nat} {w w' : World} {v : Value} {n : Nat} (h : MdsW lo hi w v n) (k : Kept lo' hi' w w') : MdsW lo hi w' v n := by
  rcases h with h | ⟨b, off, cap, h1, h2, h3, h4, h5, h6, h7, h8⟩
  · exact Or.inl h
  · exact Or.inr ⟨b, off, cap, h1, h2, h3, h4, h5, Nat.lt_of_lt_of_le h6 k.touch.size, fun i hi' => k.there _ h6 (h7 i hi'), fun i => (k.frz _ h6).trans (h8 i)⟩
theorem MdsW.below {lo hi : Nat} {w w' : World} {v : Value} {n : Nat} (h : MdsW lo hi w v n) (hb : Below w.heap.size w w') : MdsW lo hi w' v n := h.kept (Kept.below (lo := 0) (hi := 0) hb)
theorem MdsFill.done {wr : World} {B : Nat} {Ms : List Md} {k : Nat} (h : MdsFill wr B Ms k) (hk : Ms.length ≤ k) (hne : Ms ≠ []) (hm : Ms.length ≤ maxLen) : MdsAt B wr (.slice (some ⟨B, 0, none⟩) Ms.length Ms.length) Ms ∧ MdsW B wr.heap.size wr (.slice (some ⟨B, 0, none⟩) Ms.length Ms.length) Ms.length := by
  refine ⟨?_, Or.inr ⟨B, 0, Ms.length, rfl, List.length_pos_iff.2 hne, hm, Nat.le_refl _, h.lt, h.lt, fun i hi => ?_, h.free⟩⟩
  · obtain ⟨f, hr, hall⟩ := h
    refine Or.inr ⟨B, 0, Ms.length, rfl, hne, hm, hr.lt, Nat.le_refl _, Nat.le_refl _, fun i hi => ?_⟩
    obtain ⟨hz, h0, h1, h2, h3, h4, h5⟩ := hall i hi (by omega)
    rw [Nat.zero_add]
    exact ⟨hz, by rw [hr.cell (by omega), h0], by rw [hr.cell (by omega), h1], by rw [hr.cell (by omega), h2], by rw [hr.cell (by omega), h3], by rw [hr.cell (by omega), h4], by rw [hr.cell (by omega), h5]⟩
  · obtain ⟨v, hv⟩ := h.there i hi; rw [Nat.zero_add, hv]; rfl
theorem MdsFill.new (w : World) (Ms : List Md) (z : Array Value) : MdsFill (w.alloc (.cells (madeCells z (Ms.length * 6)) 66)) w.heap.size Ms 0 := by
  refine ⟨fun i => (madeCells z (Ms.length * 6)).getD i default, ?_, fun i _ h => by omega⟩
  have := World.rowIs_alloc w (madeCells z (Ms.length * 6)) 66 (fun i => (madeCells z (Ms.length * 6)).getD i default) (fun i hi => by simp [Array.getD, hi])
  rwa [size_madeCells] at this

set_option maxRecDepth 20000 in
set_option maxHeartbeats 2000000 in
theorem markMds_any (lo hi : Nat) (v : Value) (n : Nat) (k : Int) (w : World) (hv : MdsW lo hi w v n) (h0 : 0 ≤ k) (hn : n ≤ 1048576) (hk : k ≤ 1500000000000000000) :
    Calls Try.prog 39 #[v, .int .i64 k] w fun e w' => ∃ r : Int, e = .returned (.int .i64 r) ∧ k ≤ r ∧ r ≤ 1600000000000000000 ∧ Kept lo hi w w' := by
  rcases hv with ⟨a, cap, rfl, rfl⟩ | ⟨b, off, cap, rfl, hne, hm, hlo, hhi, hbw, hcs, hfr⟩
  · go_enter Try.func39, Try.ntmps39
    go_wp2
    go_loop [5, 1] (fun i q => i = .int .i64 0 ∧ q = .int .i64 k) (fun _ _ => 0)
    case atStart => exact ⟨rfl, rfl⟩
    case round =>
      obtain ⟨rfl, rfl⟩ := hrel
      go_wp2
      go_ret
      exact ⟨k, rfl, by omega, by omega, Kept.refl _ _ _⟩
  · unfold maxLen at hm
    have HC := hide hcs
    have HFR := hide hfr
    clear hcs hfr
    have hput : ∀ (W : World) (j c : Nat) (u : Value), Kept lo hi w W → j < n → c < 6 → Kept lo hi w (W.setCell ⟨b, off + j * 6 + c, none⟩ u) := fun W j c u hW hj hc =>
      hW.trans (Kept.setCell lo hi W _ u ⟨hlo, hhi⟩ (hW.there _ hbw (by rw [Nat.add_assoc]; exact HC.out _ (by omega))))
    have hput0 : ∀ (W : World) (j : Nat) (u : Value), Kept lo hi w W → j < n → Kept lo hi w (W.setCell ⟨b, off + j * 6, none⟩ u) := fun W j u hW hj => hput W j 0 u hW hj (by omega)
    have hget : ∀ (W : World) (j c : Nat), Kept lo hi w W → j < n → c < 6 → ∃ u, W.cell? ⟨b, off + j * 6 + c, none⟩ = some u := fun W j c hW hj hc =>
      Option.isSome_iff_exists.1 (hW.there _ hbw (by rw [Nat.add_assoc]; exact HC.out _ (by omega)))
    have hfree : ∀ (W : World), Kept lo hi w W → ∀ i, W.frozen? ⟨b, i, none⟩ = false := fun W hW i => (hW.frz _ hbw).trans (HFR.out i)
    have HP := hide hput
    have HP0 := hide hput0
    have HG := hide hget
    have HF := hide hfree
    clear hput hput0 hget hfree
    go_enter Try.func39, Try.ntmps39
    go_wp2
    go_loopw [5, 1] (fun i q wr => ∃ (j : Nat), i = .int .i64 j ∧ q = .int .i64 (k + j * 6) ∧ j ≤ n ∧ Kept lo hi w wr) (fun i _ _ => n - (intOf i).toNat)
    case atStart => exact ⟨0, rfl, by simp, by omega, Kept.refl _ _ _⟩
    case round =>
      obtain ⟨j, rfl, rfl, hj, hkp⟩ := hrel
      have HK := hide hkp
      clear hkp
      by_cases hlt : j < n
      · go_wp2_with fail
        refine (markText_any _ _ (by omega)).mono ?_
        rintro e w1 ⟨rfl, hb1⟩
        have HK1 := hide (HK.out.trans (Kept.below hb1))
        clear hb1 HK
        obtain ⟨u0, g0⟩ := HG.out w1 j 0 HK1.out hlt (by omega)
        rw [Nat.add_zero] at g0
        have gf := HF.out w1 HK1.out
        go_wp2_with fail
        have HX1 := hide (HP0.out w1 j (.string (mtB (k + j * 6))) HK1.out hlt)
        clear g0 gf HK1
        refine (markText_any _ _ (by omega)).mono ?_
        rintro e w2 ⟨rfl, hb2⟩
        have HK2 := hide (HX1.out.trans (Kept.below hb2))
        clear hb2 HX1
        obtain ⟨u1, g1⟩ := HG.out w2 j 1 HK2.out hlt (by omega)
        have gf := HF.out w2 HK2.out
        go_wp2_with fail
        have HX2 := hide (HP.out w2 j 1 (.string (mtB (k + j * 6 + 1))) HK2.out hlt (by omega))
        clear g1 gf HK2
        refine (markText_any _ _ (by omega)).mono ?_
        rintro e w3 ⟨rfl, hb3⟩
        have HK3 := hide (HX2.out.trans (Kept.below hb3))
        clear hb3 HX2
        obtain ⟨u2, g2⟩ := HG.out w3 j 2 HK3.out hlt (by omega)
        have gf := HF.out w3 HK3.out
        go_wp2_with fail
        have HX3 := hide (HP.out w3 j 2 (.string (mtB (k + j * 6 + 1 + 1))) HK3.out hlt (by omega))
        clear g2 gf HK3
        refine (markText_any _ _ (by omega)).mono ?_
        rintro e w4 ⟨rfl, hb4⟩
        have HK4 := hide (HX3.out.trans (Kept.below hb4))
        clear hb4 HX3
        obtain ⟨u3, g3⟩ := HG.out w4 j 3 HK4.out hlt (by omega)
        have gf := HF.out w4 HK4.out
        go_wp2_with fail
        have HX4 := hide (HP.out w4 j 3 (.string (mtB (k + j * 6 + 1 + 1 + 1))) HK4.out hlt (by omega))
        clear g3 gf HK4
        refine (markText_any _ _ (by omega)).mono ?_
        rintro e w5 ⟨rfl, hb5⟩
        have HK5 := hide (HX4.out.trans (Kept.below hb5))
        clear hb5 HX4
        obtain ⟨u4, g4⟩ := HG.out w5 j 4 HK5.out hlt (by omega)
        have gf := HF.out w5 HK5.out
        go_wp2_with fail
        have HX5 := hide (HP.out w5 j 4 (.string (mtB (k + j * 6 + 1 + 1 + 1 + 1))) HK5.out hlt (by omega))
        clear g4 gf HK5
        refine (markText_any _ _ (by omega)).mono ?_
        rintro e w6 ⟨rfl, hb6⟩
        have HK6 := hide (HX5.out.trans (Kept.below hb6))
        clear hb6 HX5
        obtain ⟨u5, g5⟩ := HG.out w6 j 5 HK6.out hlt (by omega)
        have gf := HF.out w6 HK6.out
        have HX6 := hide (HP.out w6 j 5 (.string (mtB (k + j * 6 + 1 + 1 + 1 + 1 + 1))) HK6.out hlt (by omega))
        go_wp2
        go_roundw
        case rel => exact ⟨j + 1, by go_num, by go_num, by omega, HX6.out⟩
        case measure => simp [intOf]; omega
      · have e : j = n := by omega
        subst e
        go_wp2
        go_ret
        exact ⟨_, rfl, by omega, by omega, HK.out⟩
end Go.Proofs.Ytmaagbnjpdijnaa

