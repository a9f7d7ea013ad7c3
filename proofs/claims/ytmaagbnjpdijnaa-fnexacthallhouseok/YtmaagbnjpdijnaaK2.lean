import Derived.Test.YtmaagbnjpdijnaaK1
import Derived.Test.YtmaagbnjpdijnaaS6
namespace Go.Proofs.Ytmaagbnjpdijnaa
open Go.RowKit Go.Deep

/-- the eleven cells of a field that may be written; the fifth holds its words -/
structure Spots (w : World) (b o : Nat) (wv : Value) : Prop where
  lt : b < w.heap.size
  c0 : (w.cell? ⟨b, o, none⟩).isSome = true
  cj : ∀ j, j < 11 → (w.cell? ⟨b, o + j, none⟩).isSome = true
  four : w.cell? ⟨b, o + 4, none⟩ = some wv
  fr : ∀ i, w.frozen? ⟨b, i, none⟩ = false

def FdsInv (hi b off n : Nat) (w : World) : Prop := ∀ i, i < n → ∃ wv m, Spots w b (off + i * 11) wv ∧ Writ (b + 1) hi w wv m ∧ m ≤ 1048576

/-- kept since w, and all fields stand -/
structure Mk (lo hi b off n : Nat) (w W : World) : Prop where
  kept : Kept lo hi w W
  inv : FdsInv hi b off n W

theorem Mk.setp {lo hi b off n : Nat} {w W : World} (h : Mk lo hi b off n w W) (hl : lo ≤ b) (hh : b < hi) (o : Nat) (ho : (W.cell? ⟨b, o, none⟩).isSome = true) (h4 : ∀ i, o ≠ off + i * 11 + 4) (u : Value) : Mk lo hi b off n w (W.setCell ⟨b, o, none⟩ u) := by
  have hk := Kept.setCell lo hi W ⟨b, o, none⟩ u ⟨hl, hh⟩ ho
  refine ⟨h.kept.trans hk, fun i hi' => ?_⟩
  obtain ⟨wv, m, hs, hw, hm⟩ := h.inv i hi'
  refine ⟨wv, m, ⟨Nat.lt_of_lt_of_le hs.lt hk.touch.size, hk.there _ hs.lt hs.c0, fun j hj => hk.there _ hs.lt (hs.cj j hj), ?_, fun i => (hk.frz _ hs.lt).trans (hs.fr i)⟩, hw.kept hk, hm⟩
  rw [show (W.setCell ⟨b, o, none⟩ u).cell? ⟨b, off + i * 11 + 4, none⟩ = W.cell? ⟨b, off + i * 11 + 4, none⟩ from by apply World.cell?_setCell_other; simp only [ne_eq, Addr.mk.injEq, not_and]; intro _ e; exact absurd e (h4 i)]
  exact hs.four
theorem Mk.set {lo hi b off n : Nat} {w W : World} (h : Mk lo hi b off n w W) (hl : lo ≤ b) (hh : b < hi) (j c : Nat) (hj : j < n) (hc : c < 11) (h4 : c ≠ 4) (u : Value) : Mk lo hi b off n w (W.setCell ⟨b, off + j * 11 + c, none⟩ u) := by
  obtain ⟨wv, m, hs, _, _⟩ := h.inv j hj
  exact h.setp hl hh _ (hs.cj c hc) (fun i => by omega) u
theorem Mk.set0 {lo hi b off n : Nat} {w W : World} (h : Mk lo hi b off n w W) (hl : lo ≤ b) (hh : b < hi) (j : Nat) (hj : j < n) (u : Value) : Mk lo hi b off n w (W.setCell ⟨b, off + j * 11, none⟩ u) := by
  obtain ⟨wv, m, hs, _, _⟩ := h.inv j hj
  exact h.setp hl hh _ hs.c0 (fun i => by omega) u
theorem Mk.words {lo hi b off n : Nat} {w W W' : World} (h : Mk lo hi b off n w W) (hl : lo ≤ b) (k : Kept (b + 1) hi W W') : Mk lo hi b off n w W' := by
  refine ⟨h.kept.trans (k.wide (by omega) (Nat.le_refl _)), fun i hi' => ?_⟩
  obtain ⟨wv, m, hs, hw, hm⟩ := h.inv i hi'
  exact ⟨wv, m, ⟨Nat.lt_of_lt_of_le hs.lt k.touch.size, k.there _ hs.lt hs.c0, fun j hj => k.there _ hs.lt (hs.cj j hj), by rw [k.touch.cell (p := ⟨b, _, none⟩) hs.lt (Or.inl (by simp))]; exact hs.four, fun i => (k.frz _ hs.lt).trans (hs.fr i)⟩, hw.kept k, hm⟩
theorem Mk.below {lo hi b off n : Nat} {w W W' : World} (h : Mk lo hi b off n w W) (hl : lo ≤ b) (k : Below W.heap.size W W') : Mk lo hi b off n w W' := h.words hl (Kept.below k)

/-- A []GateField OF n FIELDS THAT MAY BE WRITTEN. -/
def FdsW (lo hi : Nat) (w : World) (v : Value) (n : Nat) : Prop :=
  (∃ (a : Option Addr) (cap : Nat), v = .slice a 0 cap ∧ n = 0) ∨
  ∃ (b off cap : Nat), v = .slice (some ⟨b, off, none⟩) n cap ∧ 0 < n ∧ n ≤ maxLen ∧ lo ≤ b ∧ b < hi ∧ FdsInv hi b off n w

theorem cell_set_ne0 (w : World) (b o o' : Nat) (u : Value) (h : o ≠ o') : (w.setCell ⟨b, o, none⟩ u).cell? ⟨b, o', none⟩ = w.cell? ⟨b, o', none⟩ := by
  rw [cell_set_ne _ _ _ _ (by simp only [ne_eq, Addr.mk.injEq, not_and]; intro _ e; exact absurd e h)]

set_option maxRecDepth 20000 in
set_option maxHeartbeats 2000000 in
theorem markFds_any (lo hi : Nat) (v : Value) (n : Nat) (k : Int) (w : World) (hv : FdsW lo hi w v n) (h0 : 0 ≤ k) (hn : n ≤ 1048576) (hk : k + n * 1048586 ≤ 3000000000000000000) :
    Calls Try.prog 72 #[v, .int .i64 k] w fun e w' => ∃ r : Int, e = .returned (.int .i64 r) ∧ k ≤ r ∧ r ≤ k + n * 1048586 ∧ Kept lo hi w w' := by
  rcases hv with ⟨a, cap, rfl, rfl⟩ | ⟨b, off, cap, rfl, hne, hm, hlo, hhi, hinv⟩
  · go_enter Try.func72, Try.ntmps72
    go_wp2
    go_loop [5, 1] (fun i q => i = .int .i64 0 ∧ q = .int .i64 k) (fun _ _ => 0)
    case atStart => exact ⟨rfl, rfl⟩
    case round =>
      obtain ⟨rfl, rfl⟩ := hrel
      go_wp2
      go_ret
      exact ⟨k, rfl, by omega, by omega, Kept.refl _ _ _⟩
  · unfold maxLen at hm
    have HI : Hid (Mk lo hi b off n w w) := ⟨Kept.refl _ _ _, hinv⟩
    clear hinv
    go_enter Try.func72, Try.ntmps72
    go_wp2
    go_loopw [5, 1] (fun i q wr => ∃ (j : Nat) (r : Int), i = .int .i64 j ∧ q = .int .i64 r ∧ k ≤ r ∧ r ≤ k + j * 1048586 ∧ j ≤ n ∧ Mk lo hi b off n w wr) (fun i _ _ => n - (intOf i).toNat)
    case atStart => exact ⟨0, k, rfl, rfl, by omega, by omega, by omega, HI.out⟩
    case round =>
      obtain ⟨j, r, rfl, rfl, hr0, hr1, hj, hmk⟩ := hrel
      have HM := hide hmk
      clear hmk HI
      by_cases hlt : j < n
      · go_wp2_with fail
        refine (markText_any _ _ (by omega)).mono ?_
        rintro e w1 ⟨rfl, hb1⟩
        have HM1 := hide (HM.out.below hlo hb1)
        clear hb1 HM
        obtain ⟨wv, m, hs, hw, hmm⟩ := HM1.out.inv j hlt
        obtain ⟨a4, cap4, rfl⟩ := hw.form
        obtain ⟨u0, g0⟩ := Option.isSome_iff_exists.1 hs.c0
        obtain ⟨u1, g1⟩ := Option.isSome_iff_exists.1 (hs.cj 1 (by omega))
        obtain ⟨u2, g2⟩ := Option.isSome_iff_exists.1 (hs.cj 2 (by omega))
        obtain ⟨u3, g3⟩ := Option.isSome_iff_exists.1 (hs.cj 3 (by omega))
        have g4 := hs.four
        have gf := hs.fr
        have HW := hide hw
        clear hs hw
        go_wp2_with fail
        have HX := hide ((((HM1.out.set0 hlo hhi j hlt (.string (mtB r))).set hlo hhi j 1 hlt (by omega) (by omega) (.int .i64 (r + 1))).set hlo hhi j 2 hlt (by omega) (by omega) (.int .i64 (r + 1 + 1))).set hlo hhi j 3 hlt (by omega) (by omega) (.int .i64 (r + 1 + 1 + 1)))
        have HK := hide (((((Kept.refl lo hi w1).trans (Kept.setCell lo hi _ ⟨b, off + j * 11, none⟩ (.string (mtB r)) ⟨hlo, hhi⟩ (by rw [g0]; rfl))).trans (Kept.setCell lo hi _ ⟨b, off + j * 11 + 1, none⟩ (.int .i64 (r + 1)) ⟨hlo, hhi⟩ (by rw [cell_set_ne0 _ _ _ _ _ (by omega), g1]; rfl))).trans (Kept.setCell lo hi _ ⟨b, off + j * 11 + 2, none⟩ (.int .i64 (r + 1 + 1)) ⟨hlo, hhi⟩ (by rw [cell_set_ne0 _ _ _ _ _ (by omega), cell_set_ne0 _ _ _ _ _ (by omega), g2]; rfl))).trans (Kept.setCell lo hi _ ⟨b, off + j * 11 + 3, none⟩ (.int .i64 (r + 1 + 1 + 1)) ⟨hlo, hhi⟩ (by rw [cell_set_ne0 _ _ _ _ _ (by omega), cell_set_ne0 _ _ _ _ _ (by omega), cell_set_ne0 _ _ _ _ _ (by omega), g3]; rfl)))
        refine (markStrsW_any (b + 1) hi _ m _ _ (HW.out.kept HK.out) (by omega) (by omega)).mono ?_
        rintro e w2 ⟨rfl, hk2⟩
        have HM2 := hide (HX.out.words hlo hk2)
        clear hk2 HX HK HW HM1 g0 g1 g2 g3 g4 gf u0 u1 u2 u3
        go_wp2_with fail
        refine (markText_any _ _ (by omega)).mono ?_
        rintro e w3 ⟨rfl, hb3⟩
        have HM3 := hide (HM2.out.below hlo hb3)
        clear hb3 HM2
        obtain ⟨wv', m', hs, _, _⟩ := HM3.out.inv j hlt
        obtain ⟨u5, g5⟩ := Option.isSome_iff_exists.1 (hs.cj 5 (by omega))
        obtain ⟨u6, g6⟩ := Option.isSome_iff_exists.1 (hs.cj 6 (by omega))
        obtain ⟨u7, g7⟩ := Option.isSome_iff_exists.1 (hs.cj 7 (by omega))
        obtain ⟨u8, g8⟩ := Option.isSome_iff_exists.1 (hs.cj 8 (by omega))
        have gf := hs.fr
        clear hs
        go_wp2_with fail
        refine (markText_any _ _ (by omega)).mono ?_
        rintro e w4 ⟨rfl, hb4⟩
        have HM4 := hide (((((HM3.out.set hlo hhi j 5 hlt (by omega) (by omega) _).set hlo hhi j 6 hlt (by omega) (by omega) _).set hlo hhi j 7 hlt (by omega) (by omega) _).set hlo hhi j 8 hlt (by omega) (by omega) _).below hlo hb4)
        clear hb4 HM3 g5 g6 g7 g8 gf u5 u6 u7 u8
        obtain ⟨wv5, m5, hs, _, _⟩ := HM4.out.inv j hlt
        obtain ⟨u9, g9⟩ := Option.isSome_iff_exists.1 (hs.cj 9 (by omega))
        have gf := hs.fr
        clear hs
        go_wp2_with fail
        refine (markText_any _ _ (by omega)).mono ?_
        rintro e w5 ⟨rfl, hb5⟩
        have HM5 := hide ((HM4.out.set hlo hhi j 9 hlt (by omega) (by omega) _).below hlo hb5)
        clear hb5 HM4 g9 gf u9
        obtain ⟨wv6, m6, hs, _, _⟩ := HM5.out.inv j hlt
        obtain ⟨u10, g10⟩ := Option.isSome_iff_exists.1 (hs.cj 10 (by omega))
        have gf := hs.fr
        clear hs
        go_wp2
        go_roundw
        case rel =>
          exact ⟨j + 1, _, by go_num, rfl, by omega, by omega, by omega, HM5.out.set hlo hhi j 10 hlt (by omega) (by omega) _⟩
        case measure => simp [intOf]; omega
      · have e : j = n := by omega
        subst e
        go_wp2
        go_ret
        exact ⟨r, rfl, by omega, by omega, HM.out.kept⟩
end Go.Proofs.Ytmaagbnjpdijnaa

