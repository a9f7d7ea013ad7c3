import Derived.Test.YtlednecohppljaaB12
namespace Go.Proofs.Ytlednecohppljaa
open Go.RowKit Go.Deep

set_option maxRecDepth 20000 in
set_option maxHeartbeats 8000000 in
theorem markRas_any (lo hi : Nat) (v : Value) (Xl : List Ra) (k : Int) (w : World) (hv : RasOwn lo hi w v Xl) (hn : RasSmall Xl) (h0 : 0 ≤ k) (hk : k ≤ 2000000000000000000) :
    Calls Try.prog 49 #[v, .int .i64 k] w fun e w' => e = .returned (.int .i64 (k + (posRa Xl Xl.length : Int))) ∧ Touch lo hi w w' ∧ RasOwn lo hi w' v (mkRas k Xl) := by
  rcases hv with ⟨a, cap, rfl, rfl⟩ | ⟨b, off, cap, c, X, rfl, hne, hm, hcap, hX, hR⟩
  · go_enter Try.func49, Try.ntmps49
    go_wp2
    go_loop [5, 1] (fun i q => i = .int .i64 0 ∧ q = .int .i64 k) (fun _ _ => 0)
    case atStart => exact ⟨rfl, rfl⟩
    case round =>
      obtain ⟨rfl, rfl⟩ := hrel
      go_wp2
      go_ret
      exact ⟨by simp [posRa], Touch.refl _ _ _, Or.inl ⟨_, _, rfl, rfl⟩⟩
  · have hlen := hn.1
    have HN := hide hn
    have HX := hide hX
    have HR0 := hide hR
    have HM := hide hm
    have HC := hide hcap
    have HNE := hide hne
    clear hn hX hR hm hcap hne
    go_enter Try.func49, Try.ntmps49
    go_wp2
    go_loopw [5, 1] (fun i q wr => ∃ j : Nat, i = .int .i64 j ∧ q = .int .i64 (k + (posRa Xl j : Int)) ∧ j ≤ Xl.length ∧ Touch lo hi w wr ∧ RaRow lo hi wr b off Xl.length c (fun i => if i < j then mkRa (k + (posRa Xl i : Int)) (X i) else X i)) (fun i _ _ => Xl.length - (intOf i).toNat)
    case atStart => exact ⟨0, rfl, by simp [posRa], by omega, Touch.refl _ _ _, HR0.out.to (fun i _ => by simp)⟩
    case round =>
      obtain ⟨j, rfl, rfl, hj, ht, hr⟩ := hrel
      have HT := hide ht
      have HR := hide hr
      clear ht hr HR0
      by_cases hlt : j < Xl.length
      · have hpos := posRa_le HN.out (i := j) (by omega)
        have HP := hide (posRa_succ hlt)
        have hone : RaOne b (off + j * 2) (c j).1 (c j).2 wr (X j) := by
          have := HR.out.row j hlt
          simp only [Nat.lt_irrefl, if_false] at this
          exact this
        have hxj : X j = Xl[j] := HX.out j hlt
        obtain ⟨x, hx⟩ : ∃ x, x = X j := ⟨_, rfl⟩
        rw [← hx] at hone
        obtain ⟨hs, vv0, q0, hc, l0⟩ := hone
        have hs0 : x.fr.length ≤ 1048576 := by have := HN.out.2 j hlt; rw [hx, hxj]; unfold RaSmall RisSmall at this; omega
        have HXJ := hide hxj
        have HXX := hide hx
        obtain ⟨K, hK⟩ : ∃ K, K = k + (posRa Xl j : Int) := ⟨_, rfl⟩
        rw [← hK]
        have hK0 : 0 ≤ K := by omega
        have hK1 : K ≤ 2500000000000000000 := by omega
        have HK := hide hK
        have HBC : Hid (b < (c j).1 ∨ (c j).2 ≤ b) := (HR.out.seg j hlt).2.2
        have HS : Hid (RaSt wr b (off + j * 2) (c j).1 (c j).2 vv0 wr x) := ⟨Near.refl _ _ _ _ _ _, HBC.out, q0, hc, l0, HR.out.frz, HR.out.lt⟩
        clear hpos hxj hx hs hc l0 q0 hK
        obtain ⟨d0, d1⟩ := HS.out.cells
        have fz := HS.out.frz
        go_wp2_with fail
        clear d0 d1 fz
        obtain ⟨v1, hv1, HS1⟩ : ∃ v', v' = (wr.setCell ⟨b, off + j * 2, none⟩ (.int .i64 (K))) ∧ Hid (RaSt wr b (off + j * 2) (c j).1 (c j).2 vv0 v' ⟨K, x.fr⟩) := ⟨_, rfl, (HS.out.s0 (K))⟩
        rw [← hv1]
        clear hv1 HS
        refine (markRis_any _ _ _ x.fr _ _ HS1.out.l0 (by omega) (by omega)).mono ?_
        rintro e v2 ⟨rfl, ht, hl⟩
        have HS2 : Hid (RaSt wr b (off + j * 2) (c j).1 (c j).2 vv0 v2 ⟨K, imarks (K + 1) x.fr.length⟩) := HS1.out.m0' ht hl
        clear ht hl HS1
        obtain ⟨d0, d1⟩ := HS2.out.cells
        have fz := HS2.out.frz
        go_wp2
        clear d0 d1 fz
        have HW : Hid (wdRa Xl[j] = 1 + x.fr.length) := by unfold Hid; rw [← HXJ.out, ← HXX.out]; rfl
        have HQ : Hid ((K + 1 + (x.fr.length : Int) : Int) = k + (posRa Xl (j + 1) : Int)) := by
          have h1 := HP.out
          have h2 := HW.out
          have h3 := HK.out
          unfold Hid
          omega
        have HRN := hide (HR.out.near hlt HS2.out.near (show RaOne b (off + j * 2) (c j).1 (c j).2 v2 (mkRa K x) from ⟨rfl, _, HS2.out.q0, HS2.out.cells, HS2.out.l0⟩))
        have HTN := hide (HS2.out.near.wide HR.out.lt (lo' := lo) (hi' := hi) (HR.out.seg j hlt).1 (HR.out.seg j hlt).2.1 ⟨HR.out.low, HR.out.bh⟩)
        go_roundw
        case rel =>
          refine ⟨j + 1, by go_num, congrArg (Value.int .i64) HQ.out, by omega, HT.out.trans HTN.out, HRN.out.to (fun i hi' => ?_)⟩
          by_cases e : i = j
          · subst e
            rw [if_pos rfl, if_pos (by omega), ← HK.out, HXX.out]
          · rw [if_neg e]
            by_cases e2 : i < j
            · rw [if_pos e2, if_pos (by omega)]
            · rw [if_neg e2, if_neg (by omega)]
        case measure => simp [intOf]; omega
      · have e : j = Xl.length := by omega
        subst e
        go_wp2
        go_ret
        refine ⟨rfl, HT.out, Or.inr ⟨b, off, cap, c, fun i => mkRa (k + (posRa Xl i : Int)) (X i), by rw [mkRas_len], ?_, by rw [mkRas_len]; exact HM.out, by rw [mkRas_len]; exact HC.out, fun i h => ?_, ?_⟩⟩
        · intro e
          have := congrArg List.length e
          rw [mkRas_len] at this
          exact HNE.out (List.length_eq_zero_iff.1 (by simpa using this))
        · have h' : i < Xl.length := by rw [mkRas_len] at h; exact h
          rw [mkRas_get _ _ _ _ h', ← HX.out i h']
        · rw [mkRas_len]
          exact HR.out.to (fun i hi' => by rw [if_pos hi'])
end Go.Proofs.Ytlednecohppljaa
namespace Go.Proofs.Ytlednecohppljaa
open Go.RowKit Go.Deep

structure Cp where
  se : ByteArray
  nu : Int
  ve : Int
  im : Int
  st : Int
  en : Bool
  be : ByteArray
structure CpSize (x : Cp) : Prop where
  s0 : x.se.size ≤ maxLen
  s1 : x.be.size ≤ maxLen
def CpSmall (x : Cp) : Prop := x = x
structure CpCells (w : World) (b o : Nat) (x : Cp) : Prop where
  c0 : w.cell? ⟨b, o, none⟩ = some (.string x.se)
  c1 : w.cell? ⟨b, o + 1, none⟩ = some (.int .i64 x.nu)
  c2 : w.cell? ⟨b, o + 2, none⟩ = some (.int .i64 x.ve)
  c3 : w.cell? ⟨b, o + 3, none⟩ = some (.int .i64 x.im)
  c4 : w.cell? ⟨b, o + 4, none⟩ = some (.int .i64 x.st)
  c5 : w.cell? ⟨b, o + 5, none⟩ = some (.bool x.en)
  c6 : w.cell? ⟨b, o + 6, none⟩ = some (.string x.be)
theorem CpCells.below {w w' : World} {b o : Nat} {x : Cp} (h : CpCells w b o x ) {m : Nat} (hb : Below m w w') (hlt : b < m) : CpCells w' b o x  := by
  have e : ∀ o, w'.cell? ⟨b, o, none⟩ = w.cell? ⟨b, o, none⟩ := fun o => hb.cell (p := ⟨b, o, none⟩) hlt
  exact ⟨by rw [e]; exact h.c0, by rw [e]; exact h.c1, by rw [e]; exact h.c2, by rw [e]; exact h.c3, by rw [e]; exact h.c4, by rw [e]; exact h.c5, by rw [e]; exact h.c6⟩
theorem CpCells.set {w : World} {b o : Nat} {x : Cp} (h : CpCells w b o x ) {p : Addr} (hp : b ≠ p.block) (u : Value) : CpCells (w.setCell p u) b o x  := by
  have e : ∀ o, (w.setCell p u).cell? ⟨b, o, none⟩ = w.cell? ⟨b, o, none⟩ := fun o => cell_setCell_ne _ _ _ _ hp
  exact ⟨by rw [e]; exact h.c0, by rw [e]; exact h.c1, by rw [e]; exact h.c2, by rw [e]; exact h.c3, by rw [e]; exact h.c4, by rw [e]; exact h.c5, by rw [e]; exact h.c6⟩
def CpsAt (lo : Nat) (w : World) (v : Value) (Xl : List Cp) : Prop :=
  (∃ (a : Option Addr) (cap : Nat), v = .slice a 0 cap ∧ Xl = []) ∨
  ∃ (b off cap : Nat), v = .slice (some ⟨b, off, none⟩) Xl.length cap ∧ Xl ≠ [] ∧ Xl.length ≤ maxLen ∧ b < w.heap.size ∧ lo ≤ b ∧ Xl.length ≤ cap ∧
    ∀ i (h : i < Xl.length), CpSize Xl[i] ∧ CpCells w b (off + i * 7) Xl[i]
theorem CpsAt.below {lo : Nat} {w w' : World} {v : Value} {Xl : List Cp} (h : CpsAt lo w v Xl) (hb : Below w.heap.size w w') : CpsAt lo w' v Xl := by
  rcases h with h | ⟨b, off, cap, h1, h2, h3, h4, h5, h6, h7⟩
  · exact Or.inl h
  · refine Or.inr ⟨b, off, cap, h1, h2, h3, Nat.lt_of_lt_of_le h4 hb.size, h5, h6, fun i hi => ?_⟩
    obtain ⟨hs, hc⟩ := h7 i hi
    exact ⟨hs, hc.below hb h4⟩
theorem CpsAt.mono {lo lo' : Nat} {w : World} {v : Value} {Xl : List Cp} (h : CpsAt lo w v Xl) (hl : lo' ≤ lo) : CpsAt lo' w v Xl := by
  rcases h with h | ⟨b, off, cap, h1, h2, h3, h4, h5, h6, h7⟩
  · exact Or.inl h
  · refine Or.inr ⟨b, off, cap, h1, h2, h3, h4, Nat.le_trans hl h5, h6, fun i hi => ?_⟩
    obtain ⟨hs, hc⟩ := h7 i hi
    exact ⟨hs, hc⟩
theorem CpsAt.set {lo : Nat} {w : World} {v : Value} {Xl : List Cp} (h : CpsAt lo w v Xl) {p : Addr} (hp : p.block < lo) (u : Value) : CpsAt lo (w.setCell p u) v Xl := by
  rcases h with h | ⟨b, off, cap, h1, h2, h3, h4, h5, h6, h7⟩
  · exact Or.inl h
  · refine Or.inr ⟨b, off, cap, h1, h2, h3, by simpa [World.setCell] using h4, h5, h6, fun i hi => ?_⟩
    obtain ⟨hs, hc⟩ := h7 i hi
    exact ⟨hs, hc.set (by omega) u⟩
theorem CpsAt.form {lo : Nat} {w : World} {v : Value} {Xl : List Cp} (h : CpsAt lo w v Xl) : ∃ a cap, v = .slice a Xl.length cap := by
  rcases h with ⟨a, cap, h, rfl⟩ | ⟨b, off, cap, h, _⟩
  · exact ⟨a, cap, h⟩
  · exact ⟨_, cap, h⟩
theorem CpsAt.max {lo : Nat} {w : World} {v : Value} {Xl : List Cp} (h : CpsAt lo w v Xl) : Xl.length ≤ maxLen := by
  rcases h with ⟨a, cap, h, rfl⟩ | ⟨b, off, cap, h, _, h3, _⟩
  · exact Nat.zero_le _
  · exact h3
theorem CpsAt.full {lo : Nat} {w : World} {v : Value} {Xl : List Cp} (h : CpsAt lo w v Xl) (hne : Xl ≠ []) : ∃ (b off cap : Nat), v = .slice (some ⟨b, off, none⟩) Xl.length cap ∧ Xl.length ≤ maxLen ∧ b < w.heap.size ∧ Xl.length ≤ cap ∧
    ∀ i (h : i < Xl.length), CpSize Xl[i] ∧ CpCells w b (off + i * 7) Xl[i] := by
  rcases h with ⟨_, _, _, h⟩ | ⟨b, off, cap, h1, _, h3, h4, _, h6, h7⟩
  · exact absurd h hne
  · exact ⟨b, off, cap, h1, h3, h4, h6, h7⟩
theorem CpsAt.full' {lo : Nat} {w : World} {a : Option Addr} {n cap : Nat} {Xl : List Cp} (h : CpsAt lo w (.slice a n cap) Xl) (hL : 0 < Xl.length) :
    ∃ b off, a = some ⟨b, off, none⟩ ∧ b < w.heap.size ∧ lo ≤ b ∧ ∀ i (h : i < Xl.length), CpSize Xl[i] ∧ CpCells w b (off + i * 7) Xl[i] := by
  rcases h with ⟨a', cap', h, rfl⟩ | ⟨b', off', cap', h1, h2, h3, h4, h5, h6, h7⟩
  · simp at hL
  · injection h1 with e1 e2 e3
    exact ⟨b', off', e1, h4, h5, h7⟩
def CpsSmall (Xl : List Cp) : Prop := Xl.length ≤ 1048576 ∧ ∀ i (h : i < Xl.length), CpSmall Xl[i]
def SzCps (Xl : List Cp) (left r : Int) : Prop := -1 ≤ r ∧ r ≤ left ∧ (0 ≤ r → CpsSmall Xl)

end Go.Proofs.Ytlednecohppljaa
