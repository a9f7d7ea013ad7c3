import Derived.Test.YtmaagbnjpdijnaaK2
namespace Go.Proofs.Ytmaagbnjpdijnaa
open Go.RowKit Go.Deep

theorem FdsW.kept {lo hi lo' hi' : Nat} {w w' : World} {v : Value} {n : Nat} (h : FdsW lo hi w v n) (k : Kept lo' hi' w w') (ho : hi ≤ lo' ∨ hi' ≤ lo) : FdsW lo hi w' v n := by
  rcases h with h | ⟨b, off, cap, h1, h2, h3, h4, h5, h6⟩
  · exact Or.inl h
  · refine Or.inr ⟨b, off, cap, h1, h2, h3, h4, h5, fun i hi' => ?_⟩
    obtain ⟨wv, m, hs, hw, hm⟩ := h6 i hi'
    exact ⟨wv, m, ⟨Nat.lt_of_lt_of_le hs.lt k.touch.size, k.there _ hs.lt hs.c0, fun j hj => k.there _ hs.lt (hs.cj j hj), by rw [k.touch.cell (p := ⟨b, _, none⟩) hs.lt (by simp only []; omega)]; exact hs.four, fun i => (k.frz _ hs.lt).trans (hs.fr i)⟩, hw.kept k, hm⟩
theorem FdsW.form {lo hi : Nat} {w : World} {v : Value} {n : Nat} (h : FdsW lo hi w v n) : ∃ a cap, v = .slice a n cap := by
  rcases h with ⟨a, cap, h, rfl⟩ | ⟨b, off, cap, h, _⟩
  · exact ⟨a, cap, h⟩
  · exact ⟨_, cap, h⟩

/-- the two cells of a shape that may be written; the second holds its fields -/
structure ShSpots (w : World) (b o : Nat) (fv : Value) : Prop where
  lt : b < w.heap.size
  c0 : (w.cell? ⟨b, o, none⟩).isSome = true
  one : w.cell? ⟨b, o + 1, none⟩ = some fv
  fr : ∀ i, w.frozen? ⟨b, i, none⟩ = false

def ShsInv (b off n : Nat) (m : Nat → Nat) (j : Nat) (w : World) : Prop := ∀ i, i < n → j ≤ i → ∃ fv nf, ShSpots w b (off + i * 2) fv ∧ FdsW (m i) (m (i + 1)) w fv nf ∧ nf ≤ 1048576

theorem ShsInv.kept {b off n : Nat} {m : Nat → Nat} {j j' lo' hi' : Nat} {w w' : World} (h : ShsInv b off n m j w) (k : Kept lo' hi' w w') (hm : ∀ i j, i ≤ j → m i ≤ m j) (hjj : j ≤ j') (hb : b < lo') (hh : hi' ≤ m j') : ShsInv b off n m j' w' := by
  intro i hi hj
  obtain ⟨fv, nf, hs, hf, hn⟩ := h i hi (by omega)
  refine ⟨fv, nf, ⟨Nat.lt_of_lt_of_le hs.lt k.touch.size, k.there _ hs.lt hs.c0, by rw [k.touch.cell (p := ⟨b, _, none⟩) hs.lt (Or.inl hb)]; exact hs.one, fun i => (k.frz _ hs.lt).trans (hs.fr i)⟩, hf.kept k (Or.inr ?_), hn⟩
  have := hm j' i hj
  omega
theorem ShsInv.below {b off n : Nat} {m : Nat → Nat} {j : Nat} {w w' : World} (h : ShsInv b off n m j w) (hb : Below w.heap.size w w') : ShsInv b off n m j w' := by
  intro i hi hj
  obtain ⟨fv, nf, hs, hf, hn⟩ := h i hi hj
  have k : Kept (m (i + 1)) (m (i + 1)) w w' := Kept.below hb
  exact ⟨fv, nf, ⟨Nat.lt_of_lt_of_le hs.lt hb.size, k.there _ hs.lt hs.c0, by rw [hb.cell (p := ⟨b, _, none⟩) hs.lt]; exact hs.one, fun i => (k.frz _ hs.lt).trans (hs.fr i)⟩, hf.kept k (Or.inl (Nat.le_refl _)), hn⟩
theorem ShsInv.set {b off n : Nat} {m : Nat → Nat} {j : Nat} {w : World} (h : ShsInv b off n m j w) (hb : b < m 0) (hm : ∀ i j, i ≤ j → m i ≤ m j) (l : Nat) (hl : l < n) (hlj : j ≤ l) (u : Value) : ShsInv b off n m j (w.setCell ⟨b, off + l * 2, none⟩ u) ∧ ∀ lo hi, lo ≤ b → b < hi → Kept lo hi w (w.setCell ⟨b, off + l * 2, none⟩ u) := by
  obtain ⟨_, _, hs0, _, _⟩ := h l hl hlj
  have hk := fun lo hi (h1 : lo ≤ b) (h2 : b < hi) => Kept.setCell lo hi w ⟨b, off + l * 2, none⟩ u ⟨h1, h2⟩ hs0.c0
  refine ⟨fun i hi hj => ?_, hk⟩
  obtain ⟨fv, nf, hs, hf, hn⟩ := h i hi hj
  have k := hk b (b + 1) (Nat.le_refl _) (by omega)
  refine ⟨fv, nf, ⟨Nat.lt_of_lt_of_le hs.lt k.touch.size, k.there _ hs.lt hs.c0, by rw [cell_set_ne0 _ _ _ _ _ (by omega)]; exact hs.one, fun i => (k.frz _ hs.lt).trans (hs.fr i)⟩, hf.kept k (Or.inr ?_), hn⟩
  have := hm 0 i (by omega)
  omega

/-- A []GateShape OF n SHAPES THAT MAY BE WRITTEN. -/
def ShsW (lo hi : Nat) (w : World) (v : Value) (n : Nat) : Prop :=
  (∃ (a : Option Addr) (cap : Nat), v = .slice a 0 cap ∧ n = 0) ∨
  ∃ (b off cap : Nat) (m : Nat → Nat), v = .slice (some ⟨b, off, none⟩) n cap ∧ 0 < n ∧ n ≤ maxLen ∧ lo ≤ b ∧ b < hi ∧ b < m 0 ∧ (∀ i j, i ≤ j → m i ≤ m j) ∧ m n ≤ hi ∧ ShsInv b off n m 0 w

set_option maxRecDepth 20000 in
set_option maxHeartbeats 2000000 in
theorem markShs_any (lo hi : Nat) (v : Value) (n : Nat) (k : Int) (w : World) (hv : ShsW lo hi w v n) (h0 : 0 ≤ k) (hn : n ≤ 1048576) (hk : k ≤ 1000) :
    Calls Try.prog 38 #[v, .int .i64 k] w fun e w' => ∃ r : Int, e = .returned (.int .i64 r) ∧ k ≤ r ∧ r ≤ 1500000000000000000 ∧ Kept lo hi w w' := by
  rcases hv with ⟨a, cap, rfl, rfl⟩ | ⟨b, off, cap, m, rfl, hne, hm, hlo, hhi, hb0, hmono, hmn, hinv⟩
  · go_enter Try.func38, Try.ntmps38
    go_wp2
    go_loop [5, 1] (fun i q => i = .int .i64 0 ∧ q = .int .i64 k) (fun _ _ => 0)
    case atStart => exact ⟨rfl, rfl⟩
    case round =>
      obtain ⟨rfl, rfl⟩ := hrel
      go_wp2
      go_ret
      exact ⟨k, rfl, by omega, by omega, Kept.refl _ _ _⟩
  · unfold maxLen at hm
    have HI : Hid (ShsInv b off n m 0 w) := hinv
    have HMO := hide hmono
    clear hinv hmono
    go_enter Try.func38, Try.ntmps38
    go_wp2
    go_loopw [5, 1] (fun i q wr => ∃ (j : Nat) (r : Int), i = .int .i64 j ∧ q = .int .i64 r ∧ k ≤ r ∧ r ≤ k + j * 1099522113537 ∧ j ≤ n ∧ Kept lo hi w wr ∧ ShsInv b off n m j wr) (fun i _ _ => n - (intOf i).toNat)
    case atStart => exact ⟨0, k, rfl, rfl, by omega, by omega, by omega, Kept.refl _ _ _, HI.out⟩
    case round =>
      obtain ⟨j, r, rfl, rfl, hr0, hr1, hj, hkp, hsi⟩ := hrel
      have HK := hide hkp
      have HS := hide hsi
      clear hkp hsi HI
      by_cases hlt : j < n
      · go_wp2_with fail
        refine (markText_any _ _ (by omega)).mono ?_
        rintro e w1 ⟨rfl, hb1⟩
        have HK1 := hide (HK.out.trans (Kept.below hb1))
        have HS1 := hide (HS.out.below hb1)
        clear hb1 HK HS
        obtain ⟨hset, hkset⟩ := HS1.out.set hb0 HMO.out j hlt (Nat.le_refl _) (.string (mtB r))
        have HSS := hide hset
        have HKS := hide (HK1.out.trans (hkset lo hi hlo hhi))
        clear hset hkset
        obtain ⟨fv, nf, hs, hf, hnf⟩ := HS1.out j hlt (Nat.le_refl _)
        obtain ⟨fv', nf', hs', hf', hnf'⟩ := HSS.out j hlt (Nat.le_refl _)
        obtain ⟨u0, g0⟩ := Option.isSome_iff_exists.1 hs.c0
        have g1 := hs.one
        have gf := hs.fr
        have efv : fv' = fv := by
          have := hs'.one
          rw [cell_set_ne0 _ _ _ _ _ (by omega), g1] at this
          exact (Option.some.inj this).symm
        subst efv
        obtain ⟨a4, cap4, rfl⟩ := hf'.form
        have HF := hide hf'
        clear hs hs' hf hf' HK1
        go_wp2_with fail
        refine (markFds_any (m j) (m (j + 1)) _ nf' _ _ HF.out (by omega) (by omega) (by omega)).mono ?_
        rintro e w2 ⟨r2, rfl, hr2, hr3, hk2⟩
        have h1 := HMO.out 0 j (by omega)
        have h2 := HMO.out (j + 1) n (by omega)
        have HK2 := hide (HKS.out.trans (hk2.wide (by omega) (by omega)))
        have HS2 := hide (HSS.out.kept hk2 HMO.out (j' := j + 1) (by omega) (by omega) (Nat.le_refl _))
        clear hk2 HKS HSS HS1 HF g0 g1 gf u0
        go_wp2
        go_roundw
        case rel =>
          exact ⟨j + 1, _, by go_num, rfl, by omega, by omega, by omega, HK2.out, HS2.out⟩
        case measure => simp [intOf]; omega
      · have e : j = n := by omega
        subst e
        go_wp2
        go_ret
        exact ⟨r, rfl, by omega, by omega, HK.out⟩
end Go.Proofs.Ytmaagbnjpdijnaa

