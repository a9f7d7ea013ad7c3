import Derived.Test.YtdeammfdkaomlaaGreatV24
import Derived.Laws.IdiomStrings
import Derived.Laws.Concat
import Derived.Deep.RegionWith
namespace Go.Proofs.YtdeammfdkaomlaaGreat
open Go.RowKit Go.Deep

set_option maxRecDepth 20000 in
set_option maxHeartbeats 8000000 in
theorem markTms_any (lo hi : Nat) (v : Value) (Xl : List Tm) (k : Int) (w : World) (hv : TmsOwn lo hi w v Xl) (hn : TmsSmall Xl) (h0 : 0 ≤ k) (hk : k ≤ 2000000000000000000) :
    Calls Tryz.prog 40 #[v, .int .i64 k] w fun e w' => e = .returned (.int .i64 (k + (posTm Xl Xl.length : Int))) ∧ Touch lo hi w w' ∧ TmsOwn lo hi w' v (mkTms k Xl) := by
  rcases hv with ⟨a, cap, rfl, rfl⟩ | ⟨b, off, cap, c, X, rfl, hne, hm, hcap, hX, hR⟩
  · go_enter Tryz.func40, Tryz.ntmps40
    go_wp2
    go_loop [5, 1] (fun i q => i = .int .i64 0 ∧ q = .int .i64 k) (fun _ _ => 0)
    case atStart => exact ⟨rfl, rfl⟩
    case round =>
      obtain ⟨rfl, rfl⟩ := hrel
      go_wp2
      go_ret
      exact ⟨by simp [posTm], Touch.refl _ _ _, Or.inl ⟨_, _, rfl, rfl⟩⟩
  · have hlen := hn.1
    have HN := hide hn
    have HX := hide hX
    have HR0 := hide hR
    have HM := hide hm
    have HC := hide hcap
    have HNE := hide hne
    clear hn hX hR hm hcap hne
    go_enter Tryz.func40, Tryz.ntmps40
    go_wp2
    go_loopw [5, 1] (fun i q wr => ∃ j : Nat, i = .int .i64 j ∧ q = .int .i64 (k + (posTm Xl j : Int)) ∧ j ≤ Xl.length ∧ Touch lo hi w wr ∧ TmRow lo hi wr b off Xl.length c (fun i => if i < j then mkTm (k + (posTm Xl i : Int)) (X i) else X i)) (fun i _ _ => Xl.length - (intOf i).toNat)
    case atStart => exact ⟨0, rfl, by simp [posTm], by omega, Touch.refl _ _ _, HR0.out.to (fun i _ => by simp)⟩
    case round =>
      obtain ⟨j, rfl, rfl, hj, ht, hr⟩ := hrel
      have HT := hide ht
      have HR := hide hr
      clear ht hr HR0
      by_cases hlt : j < Xl.length
      · have hpos := posTm_le HN.out (i := j) (by omega)
        have HP := hide (posTm_succ hlt)
        have hone : TmOne b (off + j * 2) (c j) (c (j + 1)) wr (X j) := by
          have := HR.out.row j hlt
          simp only [Nat.lt_irrefl, if_false] at this
          exact this
        have hxj : X j = Xl[j] := HX.out j hlt
        obtain ⟨x, hx⟩ : ∃ x, x = X j := ⟨_, rfl⟩
        rw [← hx] at hone
        obtain ⟨hs, hc⟩ := hone
        have HXJ := hide hxj
        have HXX := hide hx
        obtain ⟨K, hK⟩ : ∃ K, K = k + (posTm Xl j : Int) := ⟨_, rfl⟩
        rw [← hK]
        have hK0 : 0 ≤ K := by omega
        have hK1 : K ≤ 2500000000000000000 := by omega
        have HK := hide hK
        have HBC : Hid (b < c j) := Nat.lt_of_lt_of_le HR.out.bc (HR.out.le (Nat.zero_le _) (by omega))
        have HS : Hid (TmSt wr b (off + j * 2) (c j) (c (j + 1)) wr x) := ⟨Near.refl _ _ _ _ _ _, HBC.out, hc, HR.out.frz, HR.out.lt⟩
        clear hpos hxj hx hs hc hK
        obtain ⟨d0, d1⟩ := HS.out.cells
        have fz := HS.out.frz
        go_wp2_with fail
        clear d0 d1 fz
        refine (markText_any _ _ (by omega)).mono ?_
        rintro e v1 ⟨rfl, hb⟩
        have HS1 := hide (HS.out.below hb)
        clear hb HS
        obtain ⟨d0, d1⟩ := HS1.out.cells
        have fz := HS1.out.frz
        go_wp2_with fail
        clear d0 d1 fz
        obtain ⟨v2, hv2, HS2⟩ : ∃ v', v' = (v1.setCell ⟨b, off + j * 2, none⟩ (.string (mtB (K)))) ∧ Hid (TmSt wr b (off + j * 2) (c j) (c (j + 1)) v' ⟨mtB (K), x.ov⟩) := ⟨_, rfl, (HS1.out.s0 (mtB (K)))⟩
        rw [← hv2]
        clear hv2 HS1
        refine (markText_any _ _ (by omega)).mono ?_
        rintro e v3 ⟨rfl, hb⟩
        have HS3 := hide (HS2.out.below hb)
        clear hb HS2
        obtain ⟨d0, d1⟩ := HS3.out.cells
        have fz := HS3.out.frz
        go_wp2
        clear d0 d1 fz
        obtain ⟨v4, hv4, HS4⟩ : ∃ v', v' = (v3.setCell ⟨b, off + j * 2 + 1, none⟩ (.string (mtB (K + 1)))) ∧ Hid (TmSt wr b (off + j * 2) (c j) (c (j + 1)) v' ⟨mtB (K), mtB (K + 1)⟩) := ⟨_, rfl, (HS3.out.s1 (mtB (K + 1)))⟩
        rw [← hv4]
        clear hv4 HS3
        have HW : Hid (wdTm Xl[j] = 2) := by unfold Hid; rw [← HXJ.out, ← HXX.out]; rfl
        have HQ : Hid ((K + 1 + 1 : Int) = k + (posTm Xl (j + 1) : Int)) := by
          have h1 := HP.out
          have h2 := HW.out
          have h3 := HK.out
          unfold Hid
          omega
        have HRN := hide (HR.out.near hlt HS4.out.near (show TmOne b (off + j * 2) (c j) (c (j + 1)) v4 (mkTm K x) from ⟨⟨mt_size _ (by omega), mt_size _ (by omega)⟩, HS4.out.cells⟩))
        have HTN := hide (HS4.out.near.wide HR.out.lt (lo' := lo) (hi' := hi) (by have := HBC.out; have := HR.out.low; omega) (Nat.le_trans (HR.out.le (by omega) (Nat.le_refl _)) HR.out.top) ⟨HR.out.low, HR.out.bh⟩)
        go_roundw
        case rel =>
          refine ⟨j + 1, by go_num, congrArg (Value.int .i64) HQ.out, by omega, HT.out.trans HTN.out, HRN.out.to (fun i hi' => ?_)⟩
          by_cases e : i = j
          · subst e
            rw [if_pos rfl, if_pos (by omega), ← HK.out, HXX.out]
          · rw [if_neg e]
            by_cases e2 : i < j
            · rw [if_pos e2, if_pos (by omega)]
            · rw [if_neg e2, if_neg (by omega)]
        case measure => simp [intOf]; omega
      · have e : j = Xl.length := by omega
        subst e
        go_wp2
        go_ret
        refine ⟨rfl, HT.out, Or.inr ⟨b, off, cap, c, fun i => mkTm (k + (posTm Xl i : Int)) (X i), by rw [mkTms_len], ?_, by rw [mkTms_len]; exact HM.out, by rw [mkTms_len]; exact HC.out, fun i h => ?_, ?_⟩⟩
        · intro e
          have := congrArg List.length e
          rw [mkTms_len] at this
          exact HNE.out (List.length_eq_zero_iff.1 (by simpa using this))
        · have h' : i < Xl.length := by rw [mkTms_len] at h; exact h
          rw [mkTms_get _ _ _ _ h', ← HX.out i h']
        · rw [mkTms_len]
          exact HR.out.to (fun i hi' => by rw [if_pos hi'])
end Go.Proofs.YtdeammfdkaomlaaGreat
namespace Go.Proofs.YtdeammfdkaomlaaGreat
open Go.RowKit Go.Deep

def RsOne (b o _c0 _c1 : Nat) (w : World) (x : Rs) : Prop := RsSize x ∧ RsCells w b o x
theorem RsOne.near {b o c0 c1 o1 d0 d1 : Nat} {w w' : World} {x : Rs} (h : RsOne b o c0 c1 w x) (hn : Near b o1 2 d0 d1 w w') (ho : o + 2 ≤ o1 ∨ o1 + 2 ≤ o) (hi : c1 ≤ d0 ∨ d1 ≤ c0) (hb : b < c0 ∨ c1 ≤ b) : RsOne b o c0 c1 w' x := by
  obtain ⟨hs, hc⟩ := h
  obtain ⟨h0, h1⟩ := hc
  have e : ∀ t, t < 2 → w'.cell? ⟨b, o + t, none⟩ = w.cell? ⟨b, o + t, none⟩ := fun t ht => hn.cell _ (by omega)
  have e0 : w'.cell? ⟨b, o, none⟩ = w.cell? ⟨b, o, none⟩ := hn.cell _ (by omega)
  exact ⟨hs, ⟨e0.trans h0, (e 1 (by omega)).trans h1⟩⟩
theorem RsOne.touch {b o c0 c1 : Nat} {lo hi : Nat} {w w' : World} {x : Rs} (h : RsOne b o c0 c1 w x) (ht : Touch lo hi w w') (hlt : b < w.heap.size) (hb : b < lo ∨ hi ≤ b) (_hi : c1 ≤ lo ∨ hi ≤ c0) : RsOne b o c0 c1 w' x := by
  obtain ⟨hs, hc⟩ := h
  obtain ⟨h0, h1⟩ := hc
  exact ⟨hs, ⟨(ht.cell (p := ⟨b, o, none⟩) hlt hb).trans h0, (ht.cell (p := ⟨b, o + 1, none⟩) hlt hb).trans h1⟩⟩
theorem RsOne.below {b o c0 c1 : Nat}  {w w' : World} {x : Rs} (h : RsOne b o c0 c1 w x) (ht : Below w.heap.size w w') (hlt : b < w.heap.size) : RsOne b o c0 c1 w' x := by
  obtain ⟨hs, hc⟩ := h
  obtain ⟨h0, h1⟩ := hc
  exact ⟨hs, ⟨(ht.cell (p := ⟨b, o, none⟩) hlt).trans h0, (ht.cell (p := ⟨b, o + 1, none⟩) hlt).trans h1⟩⟩
structure RsRow (lo hi : Nat) (w : World) (b off n : Nat) (c : Nat → Nat) (X : Nat → Rs) : Prop where
  lt : b < w.heap.size
  low : lo ≤ b
  bc : b < c 0
  bh : b < hi
  mono : ∀ i, i < n → c i ≤ c (i + 1)
  top : c n ≤ hi
  frz : ∀ i, w.frozen? ⟨b, i, none⟩ = false
  row : ∀ i, i < n → RsOne b (off + i * 2) (c i) (c (i + 1)) w (X i)
theorem RsRow.le {lo hi : Nat} {w : World} {b off n : Nat} {c : Nat → Nat} {X : Nat → Rs} (h : RsRow lo hi w b off n c X) {i : Nat} : ∀ {j : Nat}, i ≤ j → j ≤ n → c i ≤ c j := by
  intro j
  induction j with
  | zero => intro hij _; have : i = 0 := by omega
            subst this; exact Nat.le_refl _
  | succ j ih =>
    intro hij hjn
    by_cases e : i = j + 1
    · subst e; exact Nat.le_refl _
    · exact Nat.le_trans (ih (by omega) (by omega)) (h.mono j (by omega))
theorem RsRow.near {lo hi : Nat} {w w' : World} {b off n : Nat} {c : Nat → Nat} {X : Nat → Rs} (h : RsRow lo hi w b off n c X) {j : Nat} (hj : j < n) (hn : Near b (off + j * 2) 2 (c j) (c (j + 1)) w w') {x : Rs} (hx : RsOne b (off + j * 2) (c j) (c (j + 1)) w' x) : RsRow lo hi w' b off n c (fun i => if i = j then x else X i) := by
  refine ⟨Nat.lt_of_lt_of_le h.lt hn.size, h.low, h.bc, h.bh, h.mono, h.top, fun i => (hn.frz i).trans (h.frz i), fun i hi' => ?_⟩
  by_cases e : i = j
  · subst e; rw [if_pos rfl]; exact hx
  · rw [if_neg e]
    have h0 := h.le (Nat.zero_le i) (by omega)
    have hbc := h.bc
    refine (h.row i hi').near hn (by omega) ?_ (by omega)
    rcases Nat.lt_or_ge i j with hij | hij
    · exact Or.inl (h.le (by omega) (by omega))
    · exact Or.inr (h.le (by omega) (by omega))
theorem RsRow.touch {lo hi lo' hi' : Nat} {w w' : World} {b off n : Nat} {c : Nat → Nat} {X : Nat → Rs} (h : RsRow lo hi w b off n c X) (ht : Touch lo' hi' w w') (ho : hi ≤ lo' ∨ hi' ≤ lo) : RsRow lo hi w' b off n c X := by
  have h1 := h.low
  have h2 := h.bh
  have h3 := h.top
  have h4 := h.bc
  refine ⟨Nat.lt_of_lt_of_le h.lt ht.size, h.low, h.bc, h.bh, h.mono, h.top, fun i => (ht.frozen (p := ⟨b, i, none⟩) h.lt (by simp only []; omega)).trans (h.frz i), fun i hi' => ?_⟩
  have h5 := h.le (Nat.zero_le i) (by omega)
  have h6 := h.le (i := i + 1) (j := n) (by omega) (Nat.le_refl _)
  exact (h.row i hi').touch ht h.lt (by omega) (by omega)
theorem RsRow.below {lo hi : Nat} {w w' : World} {b off n : Nat} {c : Nat → Nat} {X : Nat → Rs} (h : RsRow lo hi w b off n c X) (ht : Below w.heap.size w w') : RsRow lo hi w' b off n c X :=
  ⟨Nat.lt_of_lt_of_le h.lt ht.size, h.low, h.bc, h.bh, h.mono, h.top, fun i => (ht.frozen (p := ⟨b, i, none⟩) h.lt).trans (h.frz i), fun i hi' => (h.row i hi').below ht h.lt⟩
/-- a list of one's own -/
def RssOwn (lo hi : Nat) (w : World) (v : Value) (Xl : List Rs) : Prop :=
  (∃ (a : Option Addr) (cap : Nat), v = .slice a 0 cap ∧ Xl = []) ∨
  ∃ (b off cap : Nat) (c : Nat → Nat) (X : Nat → Rs), v = .slice (some ⟨b, off, none⟩) Xl.length cap ∧ Xl ≠ [] ∧ Xl.length ≤ maxLen ∧ Xl.length ≤ cap ∧ (∀ i (h : i < Xl.length), X i = Xl[i]) ∧ RsRow lo hi w b off Xl.length c X
theorem RssOwn.touch {lo hi lo' hi' : Nat} {w w' : World} {v : Value} {Xl : List Rs} (h : RssOwn lo hi w v Xl) (ht : Touch lo' hi' w w') (ho : hi ≤ lo' ∨ hi' ≤ lo) : RssOwn lo hi w' v Xl := by
  rcases h with h | ⟨b, off, cap, c, X, h1, h2, h3, h4, h5, h6⟩
  · exact Or.inl h
  · exact Or.inr ⟨b, off, cap, c, X, h1, h2, h3, h4, h5, h6.touch ht ho⟩
theorem RssOwn.below {lo hi : Nat} {w w' : World} {v : Value} {Xl : List Rs} (h : RssOwn lo hi w v Xl) (ht : Below w.heap.size w w') : RssOwn lo hi w' v Xl := by
  rcases h with h | ⟨b, off, cap, c, X, h1, h2, h3, h4, h5, h6⟩
  · exact Or.inl h
  · exact Or.inr ⟨b, off, cap, c, X, h1, h2, h3, h4, h5, h6.below ht⟩
theorem RssOwn.form {lo hi : Nat} {w : World} {v : Value} {Xl : List Rs} (h : RssOwn lo hi w v Xl) : ∃ a cap, v = .slice a Xl.length cap := by
  rcases h with ⟨a, cap, h, rfl⟩ | ⟨b, off, cap, c, X, h1, _⟩
  · exact ⟨a, cap, h⟩
  · exact ⟨_, cap, h1⟩
theorem RssOwn.at {lo hi : Nat} {w : World} {v : Value} {Xl : List Rs} (h : RssOwn lo hi w v Xl) : RssAt lo w v Xl := by
  rcases h with h | ⟨b, off, cap, c, X, h1, h2, h3, h4, h5, h6⟩
  · exact Or.inl h
  · refine Or.inr ⟨b, off, cap, h1, h2, h3, h6.lt, h6.low, h4, fun i hi' => ?_⟩
    have hr := h6.row i hi'
    rw [h5 i hi'] at hr
    obtain ⟨hs, hc⟩ := hr
    exact ⟨hs, hc⟩
structure RsSt (wr : World) (b o c0 c1 : Nat) (v : World) (y : Rs) : Prop where
  near : Near b o 2 c0 c1 wr v
  bc : b < c0
  cells : RsCells v b o y
  frz : ∀ i, v.frozen? ⟨b, i, none⟩ = false
  lt : b < v.heap.size
theorem RsSt.below {wr : World} {b o c0 c1 : Nat} {v v' : World} {y : Rs} (h : RsSt wr b o c0 c1 v y) (hb : Below v.heap.size v v') : RsSt wr b o c0 c1 v' y :=
  ⟨h.near.trans (Near.below hb h.lt), h.bc, h.cells.below hb h.lt, fun i => (hb.frozen (p := ⟨b, i, none⟩) h.lt).trans (h.frz i), Nat.lt_of_lt_of_le h.lt hb.size⟩
end Go.Proofs.YtdeammfdkaomlaaGreat
