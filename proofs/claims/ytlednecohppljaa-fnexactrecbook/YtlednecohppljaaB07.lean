import Derived.Test.YtlednecohppljaaB01
import Derived.Test.YtlednecohppljaaB06
namespace Go.Proofs.Ytlednecohppljaa
open Go.RowKit Go.Deep

/-- ints of one's own -/
def RisOwn (lo hi : Nat) (w : World) (v : Value) (L : List Int) : Prop :=
  (∃ (a : Option Addr) (cap : Nat), v = .slice a 0 cap ∧ L = []) ∨
  ∃ (b off cap : Nat), v = .slice (some ⟨b, off, none⟩) L.length cap ∧ L ≠ [] ∧ L.length ≤ maxLen ∧ L.length ≤ cap ∧ b < w.heap.size ∧
    (∀ i (h : i < L.length), w.cell? ⟨b, off + i, none⟩ = some (.int .i64 L[i])) ∧ lo ≤ b ∧ b < hi ∧ ∀ i, w.frozen? ⟨b, off + i, none⟩ = false
theorem RisOwn.near {lo hi lo' hi' b o n : Nat} {w w' : World} {v : Value} {L : List Int} (h : RisOwn lo hi w v L) (ht : Near b o n lo' hi' w w') (ho : hi ≤ lo' ∨ hi' ≤ lo) (hb : b < lo ∨ hi ≤ b) : RisOwn lo hi w' v L := by
  rcases h with h | ⟨g, off, cap, h1, h2, h3, hcp, h4, h5, h7, h8, h9⟩
  · exact Or.inl h
  · exact Or.inr ⟨g, off, cap, h1, h2, h3, hcp, Nat.lt_of_lt_of_le h4 ht.size, fun i hi' => ((ht.out (p := ⟨g, off + i, none⟩) h4 (by simp only [ne_eq]; omega) (by simp only []; omega)).1).trans (h5 i hi'), h7, h8, fun i => ((ht.out (p := ⟨g, off + i, none⟩) h4 (by simp only [ne_eq]; omega) (by simp only []; omega)).2).trans (h9 i)⟩
theorem RisOwn.below {lo hi : Nat} {w w' : World} {v : Value} {L : List Int} (h : RisOwn lo hi w v L) (hb : Below w.heap.size w w') : RisOwn lo hi w' v L := by
  rcases h with h | ⟨g, off, cap, h1, h2, h3, hcp, h4, h5, h7, h8, h9⟩
  · exact Or.inl h
  · exact Or.inr ⟨g, off, cap, h1, h2, h3, hcp, Nat.lt_of_lt_of_le h4 hb.size, fun i hi' => (hb.cell (p := ⟨g, off + i, none⟩) h4).trans (h5 i hi'), h7, h8, fun i => (hb.frozen (p := ⟨g, off + i, none⟩) h4).trans (h9 i)⟩
theorem RisOwn.touch {lo hi lo' hi' : Nat} {w w' : World} {v : Value} {L : List Int} (h : RisOwn lo hi w v L) (ht : Touch lo' hi' w w') (ho : hi ≤ lo' ∨ hi' ≤ lo) : RisOwn lo hi w' v L := by
  rcases h with h | ⟨b, off, cap, h1, h2, h3, hcp, h4, h5, h7, h8, h9⟩
  · exact Or.inl h
  · exact Or.inr ⟨b, off, cap, h1, h2, h3, hcp, Nat.lt_of_lt_of_le h4 ht.size, fun i hi' => (ht.cell (p := ⟨b, off + i, none⟩) h4 (by simp only []; omega)).trans (h5 i hi'), h7, h8, fun i => (ht.frozen (p := ⟨b, off + i, none⟩) h4 (by simp only []; omega)).trans (h9 i)⟩
theorem RisOwn.at {lo hi : Nat} {w : World} {v : Value} {L : List Int} (h : RisOwn lo hi w v L) : RisAt lo w v L := by
  rcases h with h | ⟨g, off, cap, h1, h2, h3, hcp, h4, h5, h7, h8, h9⟩
  · exact Or.inl h
  · exact Or.inr ⟨g, off, cap, h1, h2, h3, h4, h7, hcp, fun i hi => ⟨rfl, h5 i hi⟩⟩
theorem RisOwn.wide {lo hi lo' hi' : Nat} {w : World} {v : Value} {L : List Int} (h : RisOwn lo hi w v L) (h1 : lo' ≤ lo) (h2 : hi ≤ hi') : RisOwn lo' hi' w v L := by
  rcases h with h | ⟨g, off, cap, e1, e2, e3, hcp, e4, e5, e7, e8, e9⟩
  · exact Or.inl h
  · exact Or.inr ⟨g, off, cap, e1, e2, e3, hcp, e4, e5, by omega, by omega, e9⟩
theorem RisOwn.form {lo hi : Nat} {w : World} {v : Value} {L : List Int} (h : RisOwn lo hi w v L) : ∃ a cap, v = .slice a L.length cap := by
  rcases h with ⟨a, cap, h, rfl⟩ | ⟨b, off, cap, h, _⟩
  · exact ⟨a, cap, h⟩
  · exact ⟨_, cap, h⟩
def imarks (k : Int) (n : Nat) : List Int := (List.range n).map fun (i : Nat) => k + (i : Int)
theorem imarks_len (k : Int) (n : Nat) : (imarks k n).length = n := by simp [imarks]
theorem imarks_get (k : Int) (n i : Nat) (h : i < (imarks k n).length) : (imarks k n)[i] = k + i := by simp [imarks]

set_option maxHeartbeats 1000000 in
theorem markRis_any (lo hi : Nat) (v : Value) (L : List Int) (k : Int) (w : World) (hv : RisOwn lo hi w v L) (h0 : 0 ≤ k) (hk : k + L.length ≤ 4000000000000000000) :
    Calls Try.prog 48 #[v, .int .i64 k] w fun e w' => e = .returned (.int .i64 (k + L.length)) ∧ Touch lo hi w w' ∧ RisOwn lo hi w' v (imarks k L.length) := by
  rcases hv with ⟨a, cap, rfl, rfl⟩ | ⟨b, off, cap, rfl, hne, hm, hcp, hbw, hc, hlo, hhi, hfr⟩
  · go_enter Try.func48, Try.ntmps48
    go_wp2
    go_loop [5, 1] (fun i q => i = .int .i64 0 ∧ q = .int .i64 k) (fun _ _ => 0)
    case atStart => exact ⟨rfl, rfl⟩
    case round =>
      obtain ⟨rfl, rfl⟩ := hrel
      go_wp2
      go_ret
      exact ⟨by simp, Touch.refl _ _ _, Or.inl ⟨_, _, rfl, rfl⟩⟩
  · unfold maxLen at hm
    go_enter Try.func48, Try.ntmps48
    go_wp2
    go_loopw [5, 1] (fun i q wr => ∃ j : Nat, i = .int .i64 j ∧ q = .int .i64 (k + j) ∧ j ≤ L.length ∧ Touch lo hi w wr ∧ (∀ i, i < j → wr.cell? ⟨b, off + i, none⟩ = some (.int .i64 (k + i))) ∧ (∀ i (h : i < L.length), j ≤ i → wr.cell? ⟨b, off + i, none⟩ = some (.int .i64 L[i])) ∧ ∀ i, wr.frozen? ⟨b, off + i, none⟩ = false) (fun i _ _ => L.length - (intOf i).toNat)
    case atStart => exact ⟨0, rfl, by simp, by omega, Touch.refl _ _ _, fun i h => by omega, fun i h _ => hc i h, hfr⟩
    case round =>
      obtain ⟨j, rfl, rfl, hj, ht, hA, hB, hF⟩ := hrel
      have HT := hide ht
      have HA := hide hA
      have HBB := hide hB
      have HF := hide hF
      clear ht hA hB hF
      by_cases hlt : j < L.length
      · have hcj : wr.cell? ⟨b, off + j, none⟩ = some (.int .i64 L[j]) := HBB.out j hlt (Nat.le_refl _)
        have hfj : wr.frozen? ⟨b, off + j, none⟩ = false := HF.out j
        go_wp2
        go_roundw
        case rel =>
          refine ⟨j + 1, by go_num, by go_num, by omega, HT.out.trans (Touch.setCell _ _ _ _ _ ⟨hlo, hhi⟩), fun i hi' => ?_, fun i h hi' => ?_, fun i => ?_⟩
          · by_cases e : i = j
            · subst e; exact World.cell?_setCell_same' _ _ _ (by rw [hcj]; rfl)
            · rw [show (wr.setCell ⟨b, off + j, none⟩ (.int .i64 (k + j))).cell? ⟨b, off + i, none⟩ = wr.cell? ⟨b, off + i, none⟩ from by apply World.cell?_setCell_other; simp only [ne_eq, Addr.mk.injEq, not_and]; omega]
              exact HA.out i (by omega)
          · rw [show (wr.setCell ⟨b, off + j, none⟩ (.int .i64 (k + j))).cell? ⟨b, off + i, none⟩ = wr.cell? ⟨b, off + i, none⟩ from by apply World.cell?_setCell_other; simp only [ne_eq, Addr.mk.injEq, not_and]; omega]
            exact HBB.out i h (by omega)
          · rw [World.frozen?_setCell]
            exact HF.out i
        case measure => simp [intOf]; omega
      · have e : j = L.length := by omega
        subst e
        go_wp2
        go_ret
        refine ⟨rfl, HT.out, Or.inr ⟨b, off, cap, by rw [imarks_len], ?_, by rw [imarks_len]; unfold maxLen; omega, by rw [imarks_len]; exact hcp, Nat.lt_of_lt_of_le hbw HT.out.size, fun i h => ?_, hlo, hhi, HF.out⟩⟩
        · intro e; have := congrArg List.length e; rw [imarks_len] at this; simp at this; exact hne this
        · rw [imarks_get]; exact HA.out i (by rw [imarks_len] at h; exact h)

end Go.Proofs.Ytlednecohppljaa
namespace Go.Proofs.Ytlednecohppljaa
open Go.RowKit Go.Deep

def RssFillO (wr : World) (B : Nat) (Xl : List Rs) (k : Nat) (c : Nat → Nat) : Prop :=
  B < c 0 ∧ (∀ i, i < k → c i ≤ c (i + 1)) ∧ c k ≤ wr.heap.size ∧ ∃ f, wr.rowIs B 56 (Xl.length * 2) f ∧ ∀ i (h : i < Xl.length), i < k → RsSize Xl[i] ∧ f (i * 2) = .int .i64 Xl[i].ba ∧ f (i * 2 + 1) = .string Xl[i].tx
theorem RssFillO.le {wr : World} {B : Nat} {Xl : List Rs} {k : Nat} {c : Nat → Nat} (h : RssFillO wr B Xl k c) {i : Nat} : ∀ {j : Nat}, i ≤ j → j ≤ k → c i ≤ c j := by
  intro j
  induction j with
  | zero => intro hij _; have : i = 0 := by omega
            subst this; exact Nat.le_refl _
  | succ j ih =>
    intro hij hjn
    by_cases e : i = j + 1
    · subst e; exact Nat.le_refl _
    · exact Nat.le_trans (ih (by omega) (by omega)) (h.2.1 j (by omega))
theorem RssFillO.below {wr w1 : World} {B : Nat} {Xl : List Rs} {k : Nat} {c : Nat → Nat} (h : RssFillO wr B Xl k c) (hb : Below wr.heap.size wr w1) : RssFillO w1 B Xl k c := by
  obtain ⟨g1, g2, g3, f, hr, hall⟩ := h
  refine ⟨g1, g2, Nat.le_trans g3 hb.size, f, hr.of_block (hb.block B hr.lt), fun i hi hik => ?_⟩
  obtain ⟨hz, h0, h1⟩ := hall i hi hik
  exact ⟨hz, h0, h1⟩
theorem RssFillO.free {wr : World} {B : Nat} {Xl : List Rs} {k : Nat} {c : Nat → Nat} (h : RssFillO wr B Xl k c) (i : Nat) : wr.frozen? ⟨B, i, none⟩ = false := by
  obtain ⟨_, _, _, f, hr, _⟩ := h
  exact hr.frozen i
theorem RssFillO.there {wr : World} {B : Nat} {Xl : List Rs} {k : Nat} {c : Nat → Nat} (h : RssFillO wr B Xl k c) (i : Nat) (hi : i < Xl.length * 2) : ∃ v, wr.cell? ⟨B, i, none⟩ = some v := by
  obtain ⟨_, _, _, f, hr, _⟩ := h
  exact ⟨_, hr.cell hi⟩
theorem RssFillO.lt {wr : World} {B : Nat} {Xl : List Rs} {k : Nat} {c : Nat → Nat} (h : RssFillO wr B Xl k c) : B < wr.heap.size := by
  obtain ⟨_, _, _, f, hr, _⟩ := h
  exact hr.lt
theorem RssFillO.step {w1 : World} {B : Nat} {Xl : List Rs} {k : Nat} {c : Nat → Nat} (h : RssFillO w1 B Xl k c) (hk : k < Xl.length) (hz : RsSize Xl[k]) (d : Nat) (hd0 : c k ≤ d) (hd : d ≤ w1.heap.size) :
    RssFillO ((w1.setCell ⟨B, k * 2, none⟩ (.int .i64 Xl[k].ba)).setCell ⟨B, k * 2 + 1, none⟩ (.string Xl[k].tx)) B Xl (k + 1) (fun j => if j ≤ k then c j else d) := by
  have hle := fun i (hi : i ≤ k) => h.le (i := 0) (j := i) (Nat.zero_le _) hi
  have hle2 := fun i (hi : i < k) => h.le (i := i + 1) (j := k) (by omega) (Nat.le_refl _)
  obtain ⟨g1, g2, g3, f, hr, hall⟩ := h
  have hts : Touch B (B + 1) w1 ((w1.setCell ⟨B, k * 2, none⟩ (.int .i64 Xl[k].ba)).setCell ⟨B, k * 2 + 1, none⟩ (.string Xl[k].tx)) := (Touch.setB B _ _ _).trans (Touch.setB B _ _ _)
  refine ⟨by simpa using g1, fun i hi => ?_, ?_, _, ((hr.set _ _).set _ _), fun i hi hik => ?_⟩
  · dsimp only
    by_cases e : i = k
    · subst e; rw [if_pos (Nat.le_refl _), if_neg (by omega)]; exact hd0
    · rw [if_pos (by omega), if_pos (by omega)]; exact g2 i (by omega)
  · dsimp only; rw [if_neg (by omega)]; exact Nat.le_trans hd hts.size
  by_cases e : i = k
  · subst e
    have hb0 := hle i (Nat.le_refl _)
    exact ⟨hz, by simp, by simp⟩
  · have hb0 := hle i (by omega)
    obtain ⟨hz, h0, h1⟩ := hall i hi (by omega)
    refine ⟨hz, ?_, ?_⟩
    · rw [if_neg (by omega), if_neg (by omega)]; exact h0
    · rw [if_neg (by omega), if_neg (by omega)]; exact h1
theorem RssFillO.own {wr : World} {B : Nat} {Xl : List Rs} {k : Nat} {c : Nat → Nat} (h : RssFillO wr B Xl k c) (hk : k = Xl.length) (hne : Xl ≠ []) (hm : Xl.length ≤ maxLen) : RssOwn B wr.heap.size wr (.slice (some ⟨B, 0, none⟩) Xl.length Xl.length) Xl := by
  subst hk
  obtain ⟨g1, g2, g3, f, hr, hall⟩ := h
  have h0 : 0 < Xl.length := List.length_pos_iff.2 hne
  refine Or.inr ⟨B, 0, Xl.length, c, fun i => if h : i < Xl.length then Xl[i] else Xl[0], rfl, hne, hm, Nat.le_refl _, fun i hi => by simp [hi], hr.lt, Nat.le_refl _, g1, hr.lt, g2, g3, fun i => hr.frozen i, fun i hi => ?_⟩
  obtain ⟨hz, h0, h1⟩ := hall i hi hi
  simp only [hi, dif_pos]
  rw [Nat.zero_add]
  exact ⟨hz, ⟨by rw [hr.cell (by omega), h0], by rw [hr.cell (by omega), h1]⟩⟩
theorem RssFillO.new (w : World) (Xl : List Rs) (z : Array Value) : RssFillO (w.alloc (.cells (madeCells z (Xl.length * 2)) 56)) w.heap.size Xl 0 (fun _ => w.heap.size + 1) := by
  refine ⟨Nat.lt_succ_self _, fun i hi => by omega, by simp, fun i => (madeCells z (Xl.length * 2)).getD i default, ?_, fun i _ h => by omega⟩
  have := World.rowIs_alloc w (madeCells z (Xl.length * 2)) 56 (fun i => (madeCells z (Xl.length * 2)).getD i default) (fun i hi => by simp [Array.getD, hi])
  rwa [size_madeCells] at this
set_option maxHeartbeats 4000000 in
theorem toRssO_any (lo : Nat) (v : Value) (Xl : List Rs) (w : World) (hv : RssAt lo w v Xl) (hn : RssSmall Xl) :
    Calls Try.prog 7 #[v] w fun e w' => ∃ v', e = .returned v' ∧ Below w.heap.size w w' ∧ RssOwn w.heap.size w'.heap.size w' v' Xl := by
  obtain ⟨i0, hi, hz0, hz1, hz2⟩ := info_parts Try.info56
  have HSM := hide hn.2
  have hn1 := hn.1
  clear hn
  by_cases hL : Xl = []
  · subst hL
    obtain ⟨a, cap, rfl⟩ := hv.form
    clear hv
    have hmk : ∀ u : World, (Instr.makeSlice 24 (.int .i64 0) (.int .i64 0)).run Try.prog u = .ok (.slice (some ⟨u.heap.size, 0, none⟩) 0 0) (u.alloc (.cells (madeCells (Value.cells (.agg #[.int .i64 0, .string ⟨#[]⟩])) 0) 56)) := fun u => by
      have h := run_make (P := Try.prog) u 24 56 i0 _ Try.underlying24 hi hz0 .i64 .i64 0 0 (by omega) (by omega) (by omega) (by omega)
      simpa [hz1] using h
    go_enter Try.func7, Try.ntmps7
    go_wp2
    go_loop [4] (fun i => i = .int .i64 0) (fun _ => 0)
    case atStart => rfl
    case round =>
      subst hrel
      go_wp2
      go_ret
      exact ⟨_, rfl, (Below.refl _ _).alloc (Nat.le_refl _) _, Or.inl ⟨_, _, rfl, rfl⟩⟩
  · obtain ⟨b, off, cap, rfl, hm, hbw, _, hc⟩ := hv.full hL
    clear hv
    have HM : Hid (Xl.length ≤ maxLen) := hm
    unfold maxLen at hm
    have hmk : ∀ u : World, (Instr.makeSlice 24 (.int .i64 (Xl.length : Int)) (.int .i64 (Xl.length : Int))).run Try.prog u = .ok (.slice (some ⟨u.heap.size, 0, none⟩) Xl.length Xl.length) (u.alloc (.cells (madeCells (Value.cells (.agg #[.int .i64 0, .string ⟨#[]⟩])) (Xl.length * 2)) 56)) := fun u => by
      have h := run_make (P := Try.prog) u 24 56 i0 _ Try.underlying24 hi hz0 .i64 .i64 Xl.length Xl.length (by omega) (by omega) (by rw [hz2]; omega) (by omega)
      rw [hz1] at h
      simpa using h
    clear hi hz0 hz1 hz2
    go_enter Try.func7, Try.ntmps7
    go_wp2
    clear hmk
    go_loopw [4] (fun i wr => ∃ (k : Nat) (c : Nat → Nat), i = .int .i64 k ∧ k ≤ Xl.length ∧ Below w.heap.size w wr ∧ RssFillO wr w.heap.size Xl k c) (fun i _ => Xl.length - (intOf i).toNat)
    case atStart => exact ⟨0, _, rfl, by omega, (Below.refl _ _).alloc (Nat.le_refl _) _, RssFillO.new w Xl _⟩
    case round =>
      obtain ⟨k, c, rfl, hk, hb, hf⟩ := hrel
      by_cases hlt : k < Xl.length
      · obtain ⟨hs, hc⟩ := hc k hlt
        have HB := hide hb
        have HF := hide hf
        have HSZ := hide hs
        obtain ⟨c0, c1⟩ := hc.below hb hbw
        clear hc hb hf hs
        go_wp2_with fail
        refine (toRs_any _ _).mono ?_
        rintro e w1 ⟨rfl, hb1⟩
        have hf1 := HF.out.below hb1
        have hB : Hid (Below w.heap.size w w1) := HB.out.trans (hb1.mono HB.out.size)
        have HST := hide (hf1.step hlt HSZ.out w1.heap.size (Nat.le_trans HF.out.2.2.1 hb1.size) (Nat.le_refl _))
        have hfr := hf1.free
        obtain ⟨o0, ho0⟩ := hf1.there (k * 2) (by omega)
        obtain ⟨o1, ho1⟩ := hf1.there (k * 2 + 1) (by omega)
        clear hf1 hb1 HF HB c0 c1
        go_wp2
        go_roundw
        case rel =>
          exact ⟨k + 1, _, by go_num, by omega, ((hB.out.setCell (Nat.le_refl _) _).setCell (Nat.le_refl _) _), HST.out⟩
        case measure => simp [intOf]; omega
      · have e : k = Xl.length := by omega
        go_wp2
        go_ret
        exact ⟨_, rfl, hb, hf.own e hL HM.out⟩
end Go.Proofs.Ytlednecohppljaa
