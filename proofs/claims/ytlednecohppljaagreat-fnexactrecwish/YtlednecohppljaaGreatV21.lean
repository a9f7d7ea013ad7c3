import Derived.Test.YtlednecohppljaaGreatV05
namespace Go.Proofs.YtlednecohppljaaGreat
open Go.RowKit Go.Deep

set_option maxRecDepth 20000 in
set_option maxHeartbeats 8000000 in
theorem markRss_any (lo hi : Nat) (v : Value) (Xl : List Rs) (k : Int) (w : World) (hv : RssOwn lo hi w v Xl) (hn : RssSmall Xl) (h0 : 0 ≤ k) (hk : k ≤ 2000000000000000000) :
    Calls Tryz.prog 49 #[v, .int .i64 k] w fun e w' => e = .returned (.int .i64 (k + (posRs Xl Xl.length : Int))) ∧ Touch lo hi w w' ∧ RssOwn lo hi w' v (mkRss k Xl) := by
  rcases hv with ⟨a, cap, rfl, rfl⟩ | ⟨b, off, cap, c, X, rfl, hne, hm, hcap, hX, hR⟩
  · go_enter Tryz.func49, Tryz.ntmps49
    go_wp2
    go_loop [5, 1] (fun i q => i = .int .i64 0 ∧ q = .int .i64 k) (fun _ _ => 0)
    case atStart => exact ⟨rfl, rfl⟩
    case round =>
      obtain ⟨rfl, rfl⟩ := hrel
      go_wp2
      go_ret
      exact ⟨by simp [posRs], Touch.refl _ _ _, Or.inl ⟨_, _, rfl, rfl⟩⟩
  · have hlen := hn.1
    have HN := hide hn
    have HX := hide hX
    have HR0 := hide hR
    have HM := hide hm
    have HC := hide hcap
    have HNE := hide hne
    clear hn hX hR hm hcap hne
    go_enter Tryz.func49, Tryz.ntmps49
    go_wp2
    go_loopw [5, 1] (fun i q wr => ∃ j : Nat, i = .int .i64 j ∧ q = .int .i64 (k + (posRs Xl j : Int)) ∧ j ≤ Xl.length ∧ Touch lo hi w wr ∧ RsRow lo hi wr b off Xl.length c (fun i => if i < j then mkRs (k + (posRs Xl i : Int)) (X i) else X i)) (fun i _ _ => Xl.length - (intOf i).toNat)
    case atStart => exact ⟨0, rfl, by simp [posRs], by omega, Touch.refl _ _ _, HR0.out.to (fun i _ => by simp)⟩
    case round =>
      obtain ⟨j, rfl, rfl, hj, ht, hr⟩ := hrel
      have HT := hide ht
      have HR := hide hr
      clear ht hr HR0
      by_cases hlt : j < Xl.length
      · have hpos := posRs_le HN.out (i := j) (by omega)
        have HP := hide (posRs_succ hlt)
        have hone : RsOne b (off + j * 2) (c j) (c (j + 1)) wr (X j) := by
          have := HR.out.row j hlt
          simp only [Nat.lt_irrefl, if_false] at this
          exact this
        have hxj : X j = Xl[j] := HX.out j hlt
        obtain ⟨x, hx⟩ : ∃ x, x = X j := ⟨_, rfl⟩
        rw [← hx] at hone
        obtain ⟨hs, hc⟩ := hone
        have HXJ := hide hxj
        have HXX := hide hx
        obtain ⟨K, hK⟩ : ∃ K, K = k + (posRs Xl j : Int) := ⟨_, rfl⟩
        rw [← hK]
        have hK0 : 0 ≤ K := by omega
        have hK1 : K ≤ 2500000000000000000 := by omega
        have HK := hide hK
        have HBC : Hid (b < c j) := Nat.lt_of_lt_of_le HR.out.bc (HR.out.le (Nat.zero_le _) (by omega))
        have HS : Hid (RsSt wr b (off + j * 2) (c j) (c (j + 1)) wr x) := ⟨Near.refl _ _ _ _ _ _, HBC.out, hc, HR.out.frz, HR.out.lt⟩
        clear hpos hxj hx hs hc hK
        obtain ⟨d0, d1⟩ := HS.out.cells
        have fz := HS.out.frz
        go_wp2_with fail
        clear d0 d1 fz
        obtain ⟨v1, hv1, HS1⟩ : ∃ v', v' = (wr.setCell ⟨b, off + j * 2, none⟩ (.int .i64 (K))) ∧ Hid (RsSt wr b (off + j * 2) (c j) (c (j + 1)) v' ⟨K, x.tx⟩) := ⟨_, rfl, (HS.out.s0 (K))⟩
        rw [← hv1]
        clear hv1 HS
        refine (markText_any _ _ (by omega)).mono ?_
        rintro e v2 ⟨rfl, hb⟩
        have HS2 := hide (HS1.out.below hb)
        clear hb HS1
        obtain ⟨d0, d1⟩ := HS2.out.cells
        have fz := HS2.out.frz
        go_wp2
        clear d0 d1 fz
        obtain ⟨v3, hv3, HS3⟩ : ∃ v', v' = (v2.setCell ⟨b, off + j * 2 + 1, none⟩ (.string (mtB (K + 1)))) ∧ Hid (RsSt wr b (off + j * 2) (c j) (c (j + 1)) v' ⟨K, mtB (K + 1)⟩) := ⟨_, rfl, (HS2.out.s1 (mtB (K + 1)))⟩
        rw [← hv3]
        clear hv3 HS2
        have HW : Hid (wdRs Xl[j] = 2) := by unfold Hid; rw [← HXJ.out, ← HXX.out]; rfl
        have HQ : Hid ((K + 1 + 1 : Int) = k + (posRs Xl (j + 1) : Int)) := by
          have h1 := HP.out
          have h2 := HW.out
          have h3 := HK.out
          unfold Hid
          omega
        have HRN := hide (HR.out.near hlt HS3.out.near (show RsOne b (off + j * 2) (c j) (c (j + 1)) v3 (mkRs K x) from ⟨⟨mt_size _ (by omega)⟩, HS3.out.cells⟩))
        have HTN := hide (HS3.out.near.wide HR.out.lt (lo' := lo) (hi' := hi) (by have := HBC.out; have := HR.out.low; omega) (Nat.le_trans (HR.out.le (by omega) (Nat.le_refl _)) HR.out.top) ⟨HR.out.low, HR.out.bh⟩)
        go_roundw
        case rel =>
          refine ⟨j + 1, by go_num, congrArg (Value.int .i64) HQ.out, by omega, HT.out.trans HTN.out, HRN.out.to (fun i hi' => ?_)⟩
          by_cases e : i = j
          · subst e
            rw [if_pos rfl, if_pos (by omega), ← HK.out, HXX.out]
          · rw [if_neg e]
            by_cases e2 : i < j
            · rw [if_pos e2, if_pos (by omega)]
            · rw [if_neg e2, if_neg (by omega)]
        case measure => simp [intOf]; omega
      · have e : j = Xl.length := by omega
        subst e
        go_wp2
        go_ret
        refine ⟨rfl, HT.out, Or.inr ⟨b, off, cap, c, fun i => mkRs (k + (posRs Xl i : Int)) (X i), by rw [mkRss_len], ?_, by rw [mkRss_len]; exact HM.out, by rw [mkRss_len]; exact HC.out, fun i h => ?_, ?_⟩⟩
        · intro e
          have := congrArg List.length e
          rw [mkRss_len] at this
          exact HNE.out (List.length_eq_zero_iff.1 (by simpa using this))
        · have h' : i < Xl.length := by rw [mkRss_len] at h; exact h
          rw [mkRss_get _ _ _ _ h', ← HX.out i h']
        · rw [mkRss_len]
          exact HR.out.to (fun i hi' => by rw [if_pos hi'])
end Go.Proofs.YtlednecohppljaaGreat
namespace Go.Proofs.YtlednecohppljaaGreat
open Go.RowKit Go.Deep

structure Sv where
  nm : ByteArray
  ve : Int
  gn : Bool
  im : Int
  wa : Int
  dn : Int
  ov : Int
  nx : Int
  pr : Int
  ls : Int
  ms : Int
  ld : Int
  cl : Int
structure SvSize (x : Sv) : Prop where
  s0 : x.nm.size ≤ maxLen
def SvSmall (x : Sv) : Prop := x = x
structure SvCells (w : World) (b o : Nat) (x : Sv) : Prop where
  c0 : w.cell? ⟨b, o, none⟩ = some (.string x.nm)
  c1 : w.cell? ⟨b, o + 1, none⟩ = some (.int .i64 x.ve)
  c2 : w.cell? ⟨b, o + 2, none⟩ = some (.bool x.gn)
  c3 : w.cell? ⟨b, o + 3, none⟩ = some (.int .i64 x.im)
  c4 : w.cell? ⟨b, o + 4, none⟩ = some (.int .i64 x.wa)
  c5 : w.cell? ⟨b, o + 5, none⟩ = some (.int .i64 x.dn)
  c6 : w.cell? ⟨b, o + 6, none⟩ = some (.int .i64 x.ov)
  c7 : w.cell? ⟨b, o + 7, none⟩ = some (.int .i64 x.nx)
  c8 : w.cell? ⟨b, o + 8, none⟩ = some (.int .i64 x.pr)
  c9 : w.cell? ⟨b, o + 9, none⟩ = some (.int .i64 x.ls)
  c10 : w.cell? ⟨b, o + 10, none⟩ = some (.int .i64 x.ms)
  c11 : w.cell? ⟨b, o + 11, none⟩ = some (.int .i64 x.ld)
  c12 : w.cell? ⟨b, o + 12, none⟩ = some (.int .i64 x.cl)
theorem SvCells.below {w w' : World} {b o : Nat} {x : Sv} (h : SvCells w b o x ) {m : Nat} (hb : Below m w w') (hlt : b < m) : SvCells w' b o x  := by
  have e : ∀ o, w'.cell? ⟨b, o, none⟩ = w.cell? ⟨b, o, none⟩ := fun o => hb.cell (p := ⟨b, o, none⟩) hlt
  exact ⟨by rw [e]; exact h.c0, by rw [e]; exact h.c1, by rw [e]; exact h.c2, by rw [e]; exact h.c3, by rw [e]; exact h.c4, by rw [e]; exact h.c5, by rw [e]; exact h.c6, by rw [e]; exact h.c7, by rw [e]; exact h.c8, by rw [e]; exact h.c9, by rw [e]; exact h.c10, by rw [e]; exact h.c11, by rw [e]; exact h.c12⟩
theorem SvCells.set {w : World} {b o : Nat} {x : Sv} (h : SvCells w b o x ) {p : Addr} (hp : b ≠ p.block) (u : Value) : SvCells (w.setCell p u) b o x  := by
  have e : ∀ o, (w.setCell p u).cell? ⟨b, o, none⟩ = w.cell? ⟨b, o, none⟩ := fun o => cell_setCell_ne _ _ _ _ hp
  exact ⟨by rw [e]; exact h.c0, by rw [e]; exact h.c1, by rw [e]; exact h.c2, by rw [e]; exact h.c3, by rw [e]; exact h.c4, by rw [e]; exact h.c5, by rw [e]; exact h.c6, by rw [e]; exact h.c7, by rw [e]; exact h.c8, by rw [e]; exact h.c9, by rw [e]; exact h.c10, by rw [e]; exact h.c11, by rw [e]; exact h.c12⟩
def SvsAt (lo : Nat) (w : World) (v : Value) (Xl : List Sv) : Prop :=
  (∃ (a : Option Addr) (cap : Nat), v = .slice a 0 cap ∧ Xl = []) ∨
  ∃ (b off cap : Nat), v = .slice (some ⟨b, off, none⟩) Xl.length cap ∧ Xl ≠ [] ∧ Xl.length ≤ maxLen ∧ b < w.heap.size ∧ lo ≤ b ∧ Xl.length ≤ cap ∧
    ∀ i (h : i < Xl.length), SvSize Xl[i] ∧ SvCells w b (off + i * 13) Xl[i]
theorem SvsAt.below {lo : Nat} {w w' : World} {v : Value} {Xl : List Sv} (h : SvsAt lo w v Xl) (hb : Below w.heap.size w w') : SvsAt lo w' v Xl := by
  rcases h with h | ⟨b, off, cap, h1, h2, h3, h4, h5, h6, h7⟩
  · exact Or.inl h
  · refine Or.inr ⟨b, off, cap, h1, h2, h3, Nat.lt_of_lt_of_le h4 hb.size, h5, h6, fun i hi => ?_⟩
    obtain ⟨hs, hc⟩ := h7 i hi
    exact ⟨hs, hc.below hb h4⟩
theorem SvsAt.mono {lo lo' : Nat} {w : World} {v : Value} {Xl : List Sv} (h : SvsAt lo w v Xl) (hl : lo' ≤ lo) : SvsAt lo' w v Xl := by
  rcases h with h | ⟨b, off, cap, h1, h2, h3, h4, h5, h6, h7⟩
  · exact Or.inl h
  · refine Or.inr ⟨b, off, cap, h1, h2, h3, h4, Nat.le_trans hl h5, h6, fun i hi => ?_⟩
    obtain ⟨hs, hc⟩ := h7 i hi
    exact ⟨hs, hc⟩
theorem SvsAt.set {lo : Nat} {w : World} {v : Value} {Xl : List Sv} (h : SvsAt lo w v Xl) {p : Addr} (hp : p.block < lo) (u : Value) : SvsAt lo (w.setCell p u) v Xl := by
  rcases h with h | ⟨b, off, cap, h1, h2, h3, h4, h5, h6, h7⟩
  · exact Or.inl h
  · refine Or.inr ⟨b, off, cap, h1, h2, h3, by simpa [World.setCell] using h4, h5, h6, fun i hi => ?_⟩
    obtain ⟨hs, hc⟩ := h7 i hi
    exact ⟨hs, hc.set (by omega) u⟩
theorem SvsAt.form {lo : Nat} {w : World} {v : Value} {Xl : List Sv} (h : SvsAt lo w v Xl) : ∃ a cap, v = .slice a Xl.length cap := by
  rcases h with ⟨a, cap, h, rfl⟩ | ⟨b, off, cap, h, _⟩
  · exact ⟨a, cap, h⟩
  · exact ⟨_, cap, h⟩
theorem SvsAt.max {lo : Nat} {w : World} {v : Value} {Xl : List Sv} (h : SvsAt lo w v Xl) : Xl.length ≤ maxLen := by
  rcases h with ⟨a, cap, h, rfl⟩ | ⟨b, off, cap, h, _, h3, _⟩
  · exact Nat.zero_le _
  · exact h3
theorem SvsAt.full {lo : Nat} {w : World} {v : Value} {Xl : List Sv} (h : SvsAt lo w v Xl) (hne : Xl ≠ []) : ∃ (b off cap : Nat), v = .slice (some ⟨b, off, none⟩) Xl.length cap ∧ Xl.length ≤ maxLen ∧ b < w.heap.size ∧ Xl.length ≤ cap ∧
    ∀ i (h : i < Xl.length), SvSize Xl[i] ∧ SvCells w b (off + i * 13) Xl[i] := by
  rcases h with ⟨_, _, _, h⟩ | ⟨b, off, cap, h1, _, h3, h4, _, h6, h7⟩
  · exact absurd h hne
  · exact ⟨b, off, cap, h1, h3, h4, h6, h7⟩
theorem SvsAt.full' {lo : Nat} {w : World} {a : Option Addr} {n cap : Nat} {Xl : List Sv} (h : SvsAt lo w (.slice a n cap) Xl) (hL : 0 < Xl.length) :
    ∃ b off, a = some ⟨b, off, none⟩ ∧ b < w.heap.size ∧ lo ≤ b ∧ ∀ i (h : i < Xl.length), SvSize Xl[i] ∧ SvCells w b (off + i * 13) Xl[i] := by
  rcases h with ⟨a', cap', h, rfl⟩ | ⟨b', off', cap', h1, h2, h3, h4, h5, h6, h7⟩
  · simp at hL
  · injection h1 with e1 e2 e3
    exact ⟨b', off', e1, h4, h5, h7⟩
def SvsSmall (Xl : List Sv) : Prop := Xl.length ≤ 1048576 ∧ ∀ i (h : i < Xl.length), SvSmall Xl[i]
def SzSvs (Xl : List Sv) (left r : Int) : Prop := -1 ≤ r ∧ r ≤ left ∧ (0 ≤ r → SvsSmall Xl)

end Go.Proofs.YtlednecohppljaaGreat
