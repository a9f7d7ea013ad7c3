import Derived.Test.YtfbfgljkiikabaaV03
import Derived.Test.YtfbfgljkiikabaaV04
import Derived.Test.YtfbfgljkiikabaaV08
namespace Go.Proofs.Ytfbfgljkiikabaa
open Go.RowKit Go.Deep

/-- texts of one's own -/
def RtsOwn (lo hi : Nat) (w : World) (v : Value) (L : List ByteArray) : Prop :=
  (∃ (a : Option Addr) (cap : Nat), v = .slice a 0 cap ∧ L = []) ∨
  ∃ (b off cap : Nat), v = .slice (some ⟨b, off, none⟩) L.length cap ∧ L ≠ [] ∧ L.length ≤ maxLen ∧ L.length ≤ cap ∧ b < w.heap.size ∧
    (∀ i (h : i < L.length), L[i].size ≤ maxLen ∧ w.cell? ⟨b, off + i, none⟩ = some (.string L[i])) ∧ lo ≤ b ∧ b < hi ∧ ∀ i, w.frozen? ⟨b, off + i, none⟩ = false
theorem RtsOwn.below {lo hi : Nat} {w w' : World} {v : Value} {L : List ByteArray} (h : RtsOwn lo hi w v L) (hb : Below w.heap.size w w') : RtsOwn lo hi w' v L := by
  rcases h with h | ⟨g, off, cap, h1, h2, h3, hcp, h4, h5, h7, h8, h9⟩
  · exact Or.inl h
  · exact Or.inr ⟨g, off, cap, h1, h2, h3, hcp, Nat.lt_of_lt_of_le h4 hb.size, fun i hi' => ⟨(h5 i hi').1, (hb.cell (p := ⟨g, off + i, none⟩) h4).trans (h5 i hi').2⟩, h7, h8, fun i => (hb.frozen (p := ⟨g, off + i, none⟩) h4).trans (h9 i)⟩
theorem RtsOwn.touch {lo hi lo' hi' : Nat} {w w' : World} {v : Value} {L : List ByteArray} (h : RtsOwn lo hi w v L) (ht : Touch lo' hi' w w') (ho : hi ≤ lo' ∨ hi' ≤ lo) : RtsOwn lo hi w' v L := by
  rcases h with h | ⟨b, off, cap, h1, h2, h3, hcp, h4, h5, h7, h8, h9⟩
  · exact Or.inl h
  · exact Or.inr ⟨b, off, cap, h1, h2, h3, hcp, Nat.lt_of_lt_of_le h4 ht.size, fun i hi' => ⟨(h5 i hi').1, (ht.cell (p := ⟨b, off + i, none⟩) h4 (by simp only []; omega)).trans (h5 i hi').2⟩, h7, h8, fun i => (ht.frozen (p := ⟨b, off + i, none⟩) h4 (by simp only []; omega)).trans (h9 i)⟩
theorem RtsOwn.at {lo hi : Nat} {w : World} {v : Value} {L : List ByteArray} (h : RtsOwn lo hi w v L) : RtsAt lo w v L := by
  rcases h with h | ⟨g, off, cap, h1, h2, h3, hcp, h4, h5, h7, h8, h9⟩
  · exact Or.inl h
  · exact Or.inr ⟨g, off, cap, h1, h2, h3, h4, h7, hcp, h5⟩
theorem RtsOwn.wide {lo hi lo' hi' : Nat} {w : World} {v : Value} {L : List ByteArray} (h : RtsOwn lo hi w v L) (h1 : lo' ≤ lo) (h2 : hi ≤ hi') : RtsOwn lo' hi' w v L := by
  rcases h with h | ⟨g, off, cap, e1, e2, e3, hcp, e4, e5, e7, e8, e9⟩
  · exact Or.inl h
  · exact Or.inr ⟨g, off, cap, e1, e2, e3, hcp, e4, e5, by omega, by omega, e9⟩
theorem RtsOwn.form {lo hi : Nat} {w : World} {v : Value} {L : List ByteArray} (h : RtsOwn lo hi w v L) : ∃ a cap, v = .slice a L.length cap := by
  rcases h with ⟨a, cap, h, rfl⟩ | ⟨b, off, cap, h, _⟩
  · exact ⟨a, cap, h⟩
  · exact ⟨_, cap, h⟩
def tmarks (k : Int) (n : Nat) : List ByteArray := (List.range n).map fun (i : Nat) => mtB (k + (i : Int))
theorem tmarks_len (k : Int) (n : Nat) : (tmarks k n).length = n := by simp [tmarks]
theorem tmarks_get (k : Int) (n i : Nat) (h : i < (tmarks k n).length) : (tmarks k n)[i] = mtB (k + i) := by simp [tmarks]

set_option maxHeartbeats 2000000 in
theorem markRts_any (lo hi : Nat) (v : Value) (L : List ByteArray) (k : Int) (w : World) (hv : RtsOwn lo hi w v L) (h0 : 0 ≤ k) (hk : k + L.length ≤ 4000000000000000000) :
    Calls Try.prog 47 #[v, .int .i64 k] w fun e w' => e = .returned (.int .i64 (k + L.length)) ∧ Touch lo hi w w' ∧ RtsOwn lo hi w' v (tmarks k L.length) := by
  rcases hv with ⟨a, cap, rfl, rfl⟩ | ⟨b, off, cap, rfl, hne, hm, hcp, hbw, hc, hlo, hhi, hfr⟩
  · go_enter Try.func47, Try.ntmps47
    go_wp2
    go_loop [5, 1] (fun i q => i = .int .i64 0 ∧ q = .int .i64 k) (fun _ _ => 0)
    case atStart => exact ⟨rfl, rfl⟩
    case round =>
      obtain ⟨rfl, rfl⟩ := hrel
      go_wp2
      go_ret
      exact ⟨by simp, Touch.refl _ _ _, Or.inl ⟨_, _, rfl, rfl⟩⟩
  · unfold maxLen at hm
    go_enter Try.func47, Try.ntmps47
    go_wp2
    go_loopw [5, 1] (fun i q wr => ∃ j : Nat, i = .int .i64 j ∧ q = .int .i64 (k + j) ∧ j ≤ L.length ∧ Touch lo hi w wr ∧ (∀ i, i < j → wr.cell? ⟨b, off + i, none⟩ = some (.string (mtB (k + i)))) ∧ (∀ i (h : i < L.length), j ≤ i → wr.cell? ⟨b, off + i, none⟩ = some (.string L[i])) ∧ ∀ i, wr.frozen? ⟨b, off + i, none⟩ = false) (fun i _ _ => L.length - (intOf i).toNat)
    case atStart => exact ⟨0, rfl, by simp, by omega, Touch.refl _ _ _, fun i h => by omega, fun i h _ => (hc i h).2, hfr⟩
    case round =>
      obtain ⟨j, rfl, rfl, hj, ht, hA, hB, hF⟩ := hrel
      have HT := hide ht
      have HA := hide hA
      have HBB := hide hB
      have HF := hide hF
      clear ht hA hB hF
      by_cases hlt : j < L.length
      · go_wp2_with fail
        refine (markText_any _ _ (by omega)).mono ?_
        rintro e w1 ⟨rfl, hb⟩
        have hbl : b < wr.heap.size := Nat.lt_of_lt_of_le hbw HT.out.size
        have HT1 : Hid (Touch lo hi w w1) := HT.out.trans (Touch.below hb)
        have hcj : w1.cell? ⟨b, off + j, none⟩ = some (.string L[j]) := (hb.cell (p := ⟨b, off + j, none⟩) hbl).trans (HBB.out j hlt (Nat.le_refl _))
        have hfj : w1.frozen? ⟨b, off + j, none⟩ = false := (hb.frozen (p := ⟨b, off + j, none⟩) hbl).trans (HF.out j)
        have HA1 : Hid (∀ i, i < j → w1.cell? ⟨b, off + i, none⟩ = some (.string (mtB (k + i)))) := fun i hi' => (hb.cell (p := ⟨b, off + i, none⟩) hbl).trans (HA.out i hi')
        have HB1 : Hid (∀ i (h : i < L.length), j ≤ i → w1.cell? ⟨b, off + i, none⟩ = some (.string L[i])) := fun i h hi' => (hb.cell (p := ⟨b, off + i, none⟩) hbl).trans (HBB.out i h hi')
        have HF1 : Hid (∀ i, w1.frozen? ⟨b, off + i, none⟩ = false) := fun i => (hb.frozen (p := ⟨b, off + i, none⟩) hbl).trans (HF.out i)
        clear hb hbl
        go_wp2
        go_roundw
        case rel =>
          refine ⟨j + 1, by go_num, by go_num, by omega, HT1.out.trans (Touch.setCell _ _ _ _ _ ⟨hlo, hhi⟩), fun i hi' => ?_, fun i h hi' => ?_, fun i => ?_⟩
          · by_cases e : i = j
            · subst e; exact World.cell?_setCell_same' _ _ _ (by rw [hcj]; rfl)
            · rw [show (w1.setCell ⟨b, off + j, none⟩ (.string (mtB (k + j)))).cell? ⟨b, off + i, none⟩ = w1.cell? ⟨b, off + i, none⟩ from by apply World.cell?_setCell_other; simp only [ne_eq, Addr.mk.injEq, not_and]; omega]
              exact HA1.out i (by omega)
          · rw [show (w1.setCell ⟨b, off + j, none⟩ (.string (mtB (k + j)))).cell? ⟨b, off + i, none⟩ = w1.cell? ⟨b, off + i, none⟩ from by apply World.cell?_setCell_other; simp only [ne_eq, Addr.mk.injEq, not_and]; omega]
            exact HB1.out i h (by omega)
          · rw [World.frozen?_setCell]
            exact HF1.out i
        case measure => simp [intOf]; omega
      · have e : j = L.length := by omega
        subst e
        go_wp2
        go_ret
        refine ⟨rfl, HT.out, Or.inr ⟨b, off, cap, by rw [tmarks_len], ?_, by rw [tmarks_len]; unfold maxLen; omega, by rw [tmarks_len]; exact hcp, Nat.lt_of_lt_of_le hbw HT.out.size, fun i h => ?_, hlo, hhi, HF.out⟩⟩
        · intro e; have := congrArg List.length e; rw [tmarks_len] at this; simp at this; exact hne this
        · rw [tmarks_get]
          rw [tmarks_len] at h
          exact ⟨mt_size _ (by omega), HA.out i h⟩

set_option maxRecDepth 20000 in
set_option maxHeartbeats 2000000 in
theorem heldRts_any (lo : Nat) (v : Value) (n : Nat) (k : Int) (w : World) (hv : RtsAt lo w v (tmarks k n)) (h0 : 0 ≤ k) (hk : k + n ≤ 4000000000000000000) :
    Calls Try.prog 53 #[v, .int .i64 k] w fun e w' => e = .returned (.int .i64 (k + n)) ∧ Below w.heap.size w w' := by
  have HV := hide hv
  obtain ⟨a, cap, rfl⟩ := hv.form
  clear hv
  rw [tmarks_len] at HV
  rw [tmarks_len]
  go_enter Try.func53, Try.ntmps53
  go_wp2
  go_loopw [5, 1] (fun i q wr => ∃ j : Nat, i = .int .i64 j ∧ q = .int .i64 (k + j) ∧ j ≤ n ∧ Below w.heap.size w wr) (fun i _ _ => n - (intOf i).toNat)
  case atStart => exact ⟨0, rfl, by simp, by omega, Below.refl _ _⟩
  case round =>
    obtain ⟨j, rfl, rfl, hj, hb⟩ := hrel
    have HB0 := hide hb
    clear hb
    by_cases hlt : j < n
    · obtain ⟨b, off, rfl, hbw, -, hc⟩ := HV.out.full' (by rw [tmarks_len]; omega)
      have hcj : w.cell? ⟨b, off + j, none⟩ = some (.string (mtB (k + j))) := by rw [(hc j (by rw [tmarks_len]; omega)).2, tmarks_get]
      have d1 : wr.cell? ⟨b, off + j, none⟩ = some (.string (mtB (k + j))) := (HB0.out.cell (p := ⟨b, off + j, none⟩) hbw).trans hcj
      have x0 : ∀ X : In (Up wr), X.w.cell? ⟨b, off + j, none⟩ = some (.string (mtB (k + j))) := fun X => Up.cell X d1
      have xn : Nonempty (In (Up wr)) := ⟨⟨wr, Below.refl _ _⟩⟩
      have xs := fun (X : In (Up wr)) => in_self X
      have i0 : (0 : Int) ≤ (j : Int) := by omega
      have i1 : (j : Int) < (n : Int) := by omega
      clear hc hcj
      go_wp2
      clear d1
      refine wp_region_class (Up wr) (by kernel_rfl) (by kernel_rfl) ((Below.refl _ _).drew) ?_
      repeat (go_big_quiet_step (first | (go_at_call 89; rename_i X; exact (markText_any _ _ (by omega)).mono fun _ _ h => ⟨h.1, Up.next X h.2⟩)))
      refine wpQuiet_nil ?_
      intro w1 hw
      obtain ⟨Y, hY⟩ := hw
      have HB1 : Hid (Below w.heap.size w w1) := HB0.out.trans (Below.mono (show Below wr.heap.size wr w1 by rw [hY]; exact Y.h) HB0.out.size)
      clear hY Y x0 xs xn HB0
      go_wp2
      go_roundw
      case rel => exact ⟨j + 1, by go_num, by go_num, by omega, HB1.out⟩
      case measure => simp [intOf]; omega
    · have e : j = n := by omega
      subst e
      go_wp2
      go_ret
      exact ⟨rfl, HB0.out⟩
end Go.Proofs.Ytfbfgljkiikabaa
namespace Go.Proofs.Ytfbfgljkiikabaa
open Go.RowKit Go.Deep

def RssFillO (wr : World) (B : Nat) (Xl : List Rs) (k : Nat) (c : Nat → Nat) : Prop :=
  B < c 0 ∧ (∀ i, i < k → c i ≤ c (i + 1)) ∧ c k ≤ wr.heap.size ∧ ∃ f, wr.rowIs B 98 (Xl.length * 2) f ∧ ∀ i (h : i < Xl.length), i < k → RsSize Xl[i] ∧ f (i * 2) = .int .i64 Xl[i].ba ∧ f (i * 2 + 1) = .string Xl[i].tx
theorem RssFillO.le {wr : World} {B : Nat} {Xl : List Rs} {k : Nat} {c : Nat → Nat} (h : RssFillO wr B Xl k c) {i : Nat} : ∀ {j : Nat}, i ≤ j → j ≤ k → c i ≤ c j := by
  intro j
  induction j with
  | zero => intro hij _; have : i = 0 := by omega
            subst this; exact Nat.le_refl _
  | succ j ih =>
    intro hij hjn
    by_cases e : i = j + 1
    · subst e; exact Nat.le_refl _
    · exact Nat.le_trans (ih (by omega) (by omega)) (h.2.1 j (by omega))
theorem RssFillO.below {wr w1 : World} {B : Nat} {Xl : List Rs} {k : Nat} {c : Nat → Nat} (h : RssFillO wr B Xl k c) (hb : Below wr.heap.size wr w1) : RssFillO w1 B Xl k c := by
  obtain ⟨g1, g2, g3, f, hr, hall⟩ := h
  refine ⟨g1, g2, Nat.le_trans g3 hb.size, f, hr.of_block (hb.block B hr.lt), fun i hi hik => ?_⟩
  obtain ⟨hz, h0, h1⟩ := hall i hi hik
  exact ⟨hz, h0, h1⟩
theorem RssFillO.free {wr : World} {B : Nat} {Xl : List Rs} {k : Nat} {c : Nat → Nat} (h : RssFillO wr B Xl k c) (i : Nat) : wr.frozen? ⟨B, i, none⟩ = false := by
  obtain ⟨_, _, _, f, hr, _⟩ := h
  exact hr.frozen i
theorem RssFillO.there {wr : World} {B : Nat} {Xl : List Rs} {k : Nat} {c : Nat → Nat} (h : RssFillO wr B Xl k c) (i : Nat) (hi : i < Xl.length * 2) : ∃ v, wr.cell? ⟨B, i, none⟩ = some v := by
  obtain ⟨_, _, _, f, hr, _⟩ := h
  exact ⟨_, hr.cell hi⟩
theorem RssFillO.lt {wr : World} {B : Nat} {Xl : List Rs} {k : Nat} {c : Nat → Nat} (h : RssFillO wr B Xl k c) : B < wr.heap.size := by
  obtain ⟨_, _, _, f, hr, _⟩ := h
  exact hr.lt
theorem RssFillO.step {w1 : World} {B : Nat} {Xl : List Rs} {k : Nat} {c : Nat → Nat} (h : RssFillO w1 B Xl k c) (hk : k < Xl.length) (hz : RsSize Xl[k]) (d : Nat) (hd0 : c k ≤ d) (hd : d ≤ w1.heap.size) :
    RssFillO ((w1.setCell ⟨B, k * 2, none⟩ (.int .i64 Xl[k].ba)).setCell ⟨B, k * 2 + 1, none⟩ (.string Xl[k].tx)) B Xl (k + 1) (fun j => if j ≤ k then c j else d) := by
  have hle := fun i (hi : i ≤ k) => h.le (i := 0) (j := i) (Nat.zero_le _) hi
  have hle2 := fun i (hi : i < k) => h.le (i := i + 1) (j := k) (by omega) (Nat.le_refl _)
  obtain ⟨g1, g2, g3, f, hr, hall⟩ := h
  have hts : Touch B (B + 1) w1 ((w1.setCell ⟨B, k * 2, none⟩ (.int .i64 Xl[k].ba)).setCell ⟨B, k * 2 + 1, none⟩ (.string Xl[k].tx)) := (Touch.setB B _ _ _).trans (Touch.setB B _ _ _)
  refine ⟨by simpa using g1, fun i hi => ?_, ?_, _, ((hr.set _ _).set _ _), fun i hi hik => ?_⟩
  · dsimp only
    by_cases e : i = k
    · subst e; rw [if_pos (Nat.le_refl _), if_neg (by omega)]; exact hd0
    · rw [if_pos (by omega), if_pos (by omega)]; exact g2 i (by omega)
  · dsimp only; rw [if_neg (by omega)]; exact Nat.le_trans hd hts.size
  by_cases e : i = k
  · subst e
    have hb0 := hle i (Nat.le_refl _)
    exact ⟨hz, by simp, by simp⟩
  · have hb0 := hle i (by omega)
    obtain ⟨hz, h0, h1⟩ := hall i hi (by omega)
    refine ⟨hz, ?_, ?_⟩
    · rw [if_neg (by omega), if_neg (by omega)]; exact h0
    · rw [if_neg (by omega), if_neg (by omega)]; exact h1
theorem RssFillO.own {wr : World} {B : Nat} {Xl : List Rs} {k : Nat} {c : Nat → Nat} (h : RssFillO wr B Xl k c) (hk : k = Xl.length) (hne : Xl ≠ []) (hm : Xl.length ≤ maxLen) : RssOwn B wr.heap.size wr (.slice (some ⟨B, 0, none⟩) Xl.length Xl.length) Xl := by
  subst hk
  obtain ⟨g1, g2, g3, f, hr, hall⟩ := h
  have h0 : 0 < Xl.length := List.length_pos_iff.2 hne
  refine Or.inr ⟨B, 0, Xl.length, c, fun i => if h : i < Xl.length then Xl[i] else Xl[0], rfl, hne, hm, Nat.le_refl _, fun i hi => by simp [hi], hr.lt, Nat.le_refl _, g1, hr.lt, g2, g3, fun i => hr.frozen i, fun i hi => ?_⟩
  obtain ⟨hz, h0, h1⟩ := hall i hi hi
  simp only [hi, dif_pos]
  rw [Nat.zero_add]
  exact ⟨hz, ⟨by rw [hr.cell (by omega), h0], by rw [hr.cell (by omega), h1]⟩⟩
theorem RssFillO.new (w : World) (Xl : List Rs) (z : Array Value) : RssFillO (w.alloc (.cells (madeCells z (Xl.length * 2)) 98)) w.heap.size Xl 0 (fun _ => w.heap.size + 1) := by
  refine ⟨Nat.lt_succ_self _, fun i hi => by omega, by simp, fun i => (madeCells z (Xl.length * 2)).getD i default, ?_, fun i _ h => by omega⟩
  have := World.rowIs_alloc w (madeCells z (Xl.length * 2)) 98 (fun i => (madeCells z (Xl.length * 2)).getD i default) (fun i hi => by simp [Array.getD, hi])
  rwa [size_madeCells] at this
set_option maxHeartbeats 4000000 in
theorem toRssO_any (lo : Nat) (v : Value) (Xl : List Rs) (w : World) (hv : RssAt lo w v Xl) (hn : RssSmall Xl) :
    Calls Try.prog 32 #[v] w fun e w' => ∃ v', e = .returned v' ∧ Below w.heap.size w w' ∧ RssOwn w.heap.size w'.heap.size w' v' Xl := by
  obtain ⟨i0, hi, hz0, hz1, hz2⟩ := info_parts Try.info98
  have HSM := hide hn.2
  have hn1 := hn.1
  clear hn
  by_cases hL : Xl = []
  · subst hL
    obtain ⟨a, cap, rfl⟩ := hv.form
    clear hv
    have hmk : ∀ u : World, (Instr.makeSlice 34 (.int .i64 0) (.int .i64 0)).run Try.prog u = .ok (.slice (some ⟨u.heap.size, 0, none⟩) 0 0) (u.alloc (.cells (madeCells (Value.cells (.agg #[.int .i64 0, .string ⟨#[]⟩])) 0) 98)) := fun u => by
      have h := run_make (P := Try.prog) u 34 98 i0 _ Try.underlying34 hi hz0 .i64 .i64 0 0 (by omega) (by omega) (by omega) (by omega)
      simpa [hz1] using h
    go_enter Try.func32, Try.ntmps32
    go_wp2
    go_loop [4] (fun i => i = .int .i64 0) (fun _ => 0)
    case atStart => rfl
    case round =>
      subst hrel
      go_wp2
      go_ret
      exact ⟨_, rfl, (Below.refl _ _).alloc (Nat.le_refl _) _, Or.inl ⟨_, _, rfl, rfl⟩⟩
  · obtain ⟨b, off, cap, rfl, hm, hbw, _, hc⟩ := hv.full hL
    clear hv
    have HM : Hid (Xl.length ≤ maxLen) := hm
    unfold maxLen at hm
    have hmk : ∀ u : World, (Instr.makeSlice 34 (.int .i64 (Xl.length : Int)) (.int .i64 (Xl.length : Int))).run Try.prog u = .ok (.slice (some ⟨u.heap.size, 0, none⟩) Xl.length Xl.length) (u.alloc (.cells (madeCells (Value.cells (.agg #[.int .i64 0, .string ⟨#[]⟩])) (Xl.length * 2)) 98)) := fun u => by
      have h := run_make (P := Try.prog) u 34 98 i0 _ Try.underlying34 hi hz0 .i64 .i64 Xl.length Xl.length (by omega) (by omega) (by rw [hz2]; omega) (by omega)
      rw [hz1] at h
      simpa using h
    clear hi hz0 hz1 hz2
    go_enter Try.func32, Try.ntmps32
    go_wp2
    clear hmk
    go_loopw [4] (fun i wr => ∃ (k : Nat) (c : Nat → Nat), i = .int .i64 k ∧ k ≤ Xl.length ∧ Below w.heap.size w wr ∧ RssFillO wr w.heap.size Xl k c) (fun i _ => Xl.length - (intOf i).toNat)
    case atStart => exact ⟨0, _, rfl, by omega, (Below.refl _ _).alloc (Nat.le_refl _) _, RssFillO.new w Xl _⟩
    case round =>
      obtain ⟨k, c, rfl, hk, hb, hf⟩ := hrel
      by_cases hlt : k < Xl.length
      · obtain ⟨hs, hc⟩ := hc k hlt
        have HB := hide hb
        have HF := hide hf
        have HSZ := hide hs
        obtain ⟨c0, c1⟩ := hc.below hb hbw
        clear hc hb hf hs
        go_wp2_with fail
        refine (toRs_any _ _).mono ?_
        rintro e w1 ⟨rfl, hb1⟩
        have hf1 := HF.out.below hb1
        have hB : Hid (Below w.heap.size w w1) := HB.out.trans (hb1.mono HB.out.size)
        have HST := hide (hf1.step hlt HSZ.out w1.heap.size (Nat.le_trans HF.out.2.2.1 hb1.size) (Nat.le_refl _))
        have hfr := hf1.free
        obtain ⟨o0, ho0⟩ := hf1.there (k * 2) (by omega)
        obtain ⟨o1, ho1⟩ := hf1.there (k * 2 + 1) (by omega)
        clear hf1 hb1 HF HB c0 c1
        go_wp2
        go_roundw
        case rel =>
          exact ⟨k + 1, _, by go_num, by omega, ((hB.out.setCell (Nat.le_refl _) _).setCell (Nat.le_refl _) _), HST.out⟩
        case measure => simp [intOf]; omega
      · have e : k = Xl.length := by omega
        go_wp2
        go_ret
        exact ⟨_, rfl, hb, hf.own e hL HM.out⟩
end Go.Proofs.Ytfbfgljkiikabaa
namespace Go.Proofs.Ytfbfgljkiikabaa
open Go.RowKit Go.Deep

/-! lists, one by one -/
theorem all_no {X : Type} {L : List X} {f : X → Bool} {k : Nat} (hk : k < L.length) (h : f L[k] = false) : L.all f = false := by
  rw [List.all_eq_false]
  exact ⟨L[k], List.getElem_mem hk, by simp [h]⟩
theorem all_yes {X : Type} {L : List X} {f : X → Bool} (h : ∀ i (h : i < L.length), f L[i] = true) : L.all f = true := by
  rw [List.all_eq_true]
  intro x hx
  obtain ⟨i, hi, rfl⟩ := List.getElem_of_mem hx
  exact h i hi
theorem all_at {X : Type} {L : List X} {f : X → Bool} (h : L.all f = true) {k : Nat} (hk : k < L.length) : f L[k] = true := List.all_eq_true.1 h _ (List.getElem_mem hk)
theorem step_all {X : Type} {L : List X} {f : X → Bool} {k : Nat} (hall : ∀ j (h : j < L.length), j < k → f L[j] = true) (hk : k < L.length) (h : f L[k] = true) : ∀ j (h : j < L.length), j < k + 1 → f L[j] = true := fun j hj hjk => by
  by_cases e : j = k
  · subst e; exact h
  · exact hall j hj (by omega)
theorem in21_any (n lo hi : Int) (w : World) :
    Calls Try.prog 17 #[.int .i64 n, .int .i64 lo, .int .i64 hi] w fun e w' => e = .returned (.bool (inB lo hi n)) ∧ w' = w := by
  rw [inB_eq]
  by_cases h1 : lo ≤ n
  · by_cases h2 : n ≤ hi
    all_goals
      go_enter Try.func17, Try.ntmps17
      go_wp2
      go_ret
      exact ⟨ret_bool (by simp [h1, h2]), rfl⟩
  · go_enter Try.func17, Try.ntmps17
    go_wp2
    go_ret
    refine ⟨ret_bool ?_, rfl⟩
    rw [Bool.eq_iff_iff]; simp; omega
/-- a slot is ok -/
def slotB (x : Rs) : Bool := inB 0 1000000 x.ba && (decide (x.tx.size ≤ 160) && !(x.ba == 0 && !x.tx.toList.isEmpty))
def slotsB (L : List Rs) : Bool := decide (L.length ≤ 120) && L.all slotB

set_option maxRecDepth 20000 in
set_option maxHeartbeats 4000000 in
theorem slotsOk_any (lo : Nat) (v : Value) (L : List Rs) (w : World) (hv : RssAt lo w v L) :
    Calls Try.prog 65 #[v] w fun e w' => e = .returned (.bool (slotsB L)) ∧ w' = w := by
  have HV := hide hv
  have hm := hv.max
  unfold maxLen at hm
  obtain ⟨a, cap, rfl⟩ := hv.form
  clear hv
  have HI : Hid (slotsB L = (decide (L.length ≤ 120) && L.all slotB)) := rfl
  by_cases l0 : L.length ≤ 120
  case neg =>
    have HE : Hid (slotsB L = false) := by unfold Hid; rw [HI.out, decide_eq_false l0]; rfl
    have d0 : decide ((120 : Int) < (L.length : Int)) = true := by simp; omega
    go_enter Try.func65, Try.ntmps65
    go_wp2
    go_ret
    exact ⟨ret_bool HE.out.symm, rfl⟩
  have d0 : decide ((120 : Int) < (L.length : Int)) = false := by simp; omega
  have HE1 : Hid (slotsB L = L.all slotB) := by unfold Hid; rw [HI.out, decide_eq_true l0]; rfl
  go_enter Try.func65, Try.ntmps65
  go_wp2
  clear d0
  go_loop [3] (fun i => ∃ k : Nat, i = .int .i64 k ∧ k ≤ L.length ∧ ∀ j (hj : j < L.length), j < k → slotB L[j] = true) (fun i => L.length - (intOf i).toNat)
  case atStart => exact ⟨0, rfl, by omega, fun j _ h => by omega⟩
  case round =>
    obtain ⟨k, rfl, hk, hall⟩ := hrel
    have HAL := hide hall
    clear hall
    by_cases hlt : k < L.length
    · obtain ⟨b, off, rfl, hbw, -, hc⟩ := HV.out.full' (by omega)
      obtain ⟨hsz, hcc⟩ := hc k hlt
      obtain ⟨x, hx⟩ : ∃ x, x = L[k] := ⟨_, rfl⟩
      rw [← hx] at hsz hcc
      have HX := hide hx
      have e0 := hcc.c0
      have e1 := hcc.c1
      have i0 : (0 : Int) ≤ (k : Int) := by omega
      have i1 : (k : Int) < (L.length : Int) := by omega
      have hs := hsz.s0
      unfold maxLen at hs
      clear hc hcc hsz hx
      cases h1 : inB 0 1000000 x.ba with
      | false =>
        have HN : Hid (slotB x = false) := by unfold Hid slotB; rw [h1]; rfl
        go_wp2_with (go_at_call 17; refine (in21_any _ _ _ _).mono ?_; rintro e w' ⟨rfl, rfl⟩)
        go_ret
        exact ⟨ret_bool (by rw [HE1.out]; exact (all_no hlt (by rw [← HX.out]; exact HN.out)).symm), rfl⟩
      | true =>
        by_cases h2 : x.tx.size ≤ 160
        case neg =>
          have HN : Hid (slotB x = false) := by unfold Hid slotB; rw [h1, decide_eq_false h2]; rfl
          have d2 : decide ((160 : Int) < (x.tx.size : Int)) = true := by simp; omega
          go_wp2_with (go_at_call 17; refine (in21_any _ _ _ _).mono ?_; rintro e w' ⟨rfl, rfl⟩)
          go_ret
          exact ⟨ret_bool (by rw [HE1.out]; exact (all_no hlt (by rw [← HX.out]; exact HN.out)).symm), rfl⟩
        have d2 : decide ((160 : Int) < (x.tx.size : Int)) = false := by simp; omega
        have HS : Hid (slotB x = !(x.ba == 0 && !x.tx.toList.isEmpty)) := by unfold Hid slotB; rw [h1, decide_eq_true h2]; rfl
        cases h3 : (x.ba == 0) with
        | false =>
          have HY : Hid (slotB x = true) := by unfold Hid; rw [HS.out, h3]; rfl
          go_wp2_with (go_at_call 17; refine (in21_any _ _ _ _).mono ?_; rintro e w' ⟨rfl, rfl⟩)
          go_round
          case rel => exact ⟨k + 1, by go_num, by omega, step_all HAL.out hlt (by rw [← HX.out]; exact HY.out)⟩
          case measure => simp [intOf]; omega
        | true =>
          cases h4 : x.tx.toList.isEmpty with
          | true =>
            have HY : Hid (slotB x = true) := by unfold Hid; rw [HS.out, h3, h4]; rfl
            go_wp2_with (go_at_call 17; refine (in21_any _ _ _ _).mono ?_; rintro e w' ⟨rfl, rfl⟩)
            go_round
            case rel => exact ⟨k + 1, by go_num, by omega, step_all HAL.out hlt (by rw [← HX.out]; exact HY.out)⟩
            case measure => simp [intOf]; omega
          | false =>
            have HN : Hid (slotB x = false) := by unfold Hid; rw [HS.out, h3, h4]; rfl
            go_wp2_with (go_at_call 17; refine (in21_any _ _ _ _).mono ?_; rintro e w' ⟨rfl, rfl⟩)
            go_ret
            exact ⟨ret_bool (by rw [HE1.out]; exact (all_no hlt (by rw [← HX.out]; exact HN.out)).symm), rfl⟩
    · have HT : Hid (L.all slotB = true) := all_yes (fun i hi => HAL.out i hi (by omega))
      go_wp2
      go_ret
      exact ⟨ret_bool (by rw [HE1.out, HT.out]), rfl⟩
end Go.Proofs.Ytfbfgljkiikabaa
