import Derived.Test.YtlednecohppljaaB31
import Derived.Test.YtlednecohppljaaB32
namespace Go.Proofs.Ytlednecohppljaa
open Go.RowKit Go.Deep

theorem markRss_two (lo hi : Nat) (v : Value) (Xl : List Rs) (k : Int) (w : World) (hv : RssOwn lo hi w v Xl) (hn : RssSmall Xl) (h0 : 0 ≤ k) (hk : k ≤ 2000000000000000000) :
    Calls Try.prog 10 #[v, .int .i64 k] w fun e w' => e = .returned (.int .i64 (k + 2 * (Xl.length : Int))) ∧ Touch lo hi w w' ∧ RssOwn lo hi w' v (mkRss k Xl) := by
  have := markRss_any lo hi v Xl k w hv hn h0 hk
  rw [posRs_all2] at this
  simpa using this

set_option maxRecDepth 20000 in
set_option maxHeartbeats 8000000 in
theorem markRms_any (lo hi : Nat) (v : Value) (Xl : List Rm) (k : Int) (w : World) (hv : RmsOwn lo hi w v Xl) (hn : RmsSmall Xl) (h0 : 0 ≤ k) (hk : k ≤ 1900000000000000000) :
    Calls Try.prog 47 #[v, .int .i64 k] w fun e w' => e = .returned (.int .i64 (k + (posRm Xl Xl.length : Int))) ∧ Touch lo hi w w' ∧ RmsOwn lo hi w' v (mkRms k Xl) := by
  rcases hv with ⟨a, cap, rfl, rfl⟩ | ⟨b, off, cap, c, X, rfl, hne, hm, hcap, hX, hR⟩
  · go_enter Try.func47, Try.ntmps47
    go_wp2
    go_loop [5, 1] (fun i q => i = .int .i64 0 ∧ q = .int .i64 k) (fun _ _ => 0)
    case atStart => exact ⟨rfl, rfl⟩
    case round =>
      obtain ⟨rfl, rfl⟩ := hrel
      go_wp2
      go_ret
      exact ⟨by simp [posRm], Touch.refl _ _ _, Or.inl ⟨_, _, rfl, rfl⟩⟩
  · have hlen := hn.1
    have HN := hide hn
    have HX := hide hX
    have HR0 := hide hR
    have HM := hide hm
    have HC := hide hcap
    have HNE := hide hne
    clear hn hX hR hm hcap hne
    go_enter Try.func47, Try.ntmps47
    go_wp2
    go_loopw [5, 1] (fun i q wr => ∃ j : Nat, i = .int .i64 j ∧ q = .int .i64 (k + (posRm Xl j : Int)) ∧ j ≤ Xl.length ∧ Touch lo hi w wr ∧ RmRow lo hi wr b off Xl.length c (fun i => if i < j then mkRm (k + (posRm Xl i : Int)) (X i) else X i)) (fun i _ _ => Xl.length - (intOf i).toNat)
    case atStart => exact ⟨0, rfl, by simp [posRm], by omega, Touch.refl _ _ _, HR0.out.to (fun i _ => by simp)⟩
    case round =>
      obtain ⟨j, rfl, rfl, hj, ht, hr⟩ := hrel
      have HT := hide ht
      have HR := hide hr
      clear ht hr HR0
      by_cases hlt : j < Xl.length
      · have hpos := posRm_le HN.out (i := j) (by omega)
        have HP := hide (posRm_succ hlt)
        have hone : RmOne b (off + j * 8) (c j).1 (c j).2 wr (X j) := by
          have := HR.out.row j hlt
          simp only [Nat.lt_irrefl, if_false] at this
          exact this
        have hxj : X j = Xl[j] := HX.out j hlt
        obtain ⟨x, hx⟩ : ∃ x, x = X j := ⟨_, rfl⟩
        rw [← hx] at hone
        obtain ⟨hs, vv0, q0, hc, l0⟩ := hone
        have hs0 : RssSmall x.sl := by rw [hx, hxj]; exact HN.out.2 j hlt
        have hs0n := hs0.1
        have HXJ := hide hxj
        have HXX := hide hx
        obtain ⟨K, hK⟩ : ∃ K, K = k + (posRm Xl j : Int) := ⟨_, rfl⟩
        rw [← hK]
        have hK0 : 0 ≤ K := by omega
        have hK1 : K ≤ 1950000000000000000 := by omega
        have HK := hide hK
        have HBC : Hid (b < (c j).1 ∨ (c j).2 ≤ b) := (HR.out.seg j hlt).2.2
        have HS : Hid (RmSt wr b (off + j * 8) (c j).1 (c j).2 vv0 wr x) := ⟨Near.refl _ _ _ _ _ _, HBC.out, q0, hc, l0, HR.out.frz, HR.out.lt⟩
        clear hpos hxj hx hs hc l0 q0 hK
        obtain ⟨d0, d1, d2, d3, d4, d5, d6, d7⟩ := HS.out.cells
        have fz := HS.out.frz
        go_wp2_with fail
        clear d0 d1 d2 d3 d4 d5 d6 d7 fz
        obtain ⟨v1, hv1, HS1⟩ : ∃ v', v' = ((((((wr.setCell ⟨b, off + j * 8, none⟩ (.int .i64 (K))).setCell ⟨b, off + j * 8 + 1, none⟩ (.int .i64 (K + 1))).setCell ⟨b, off + j * 8 + 2, none⟩ (.int .i64 (K + 1 + 1))).setCell ⟨b, off + j * 8 + 3, none⟩ (.int .i64 (K + 1 + 1 + 1))).setCell ⟨b, off + j * 8 + 4, none⟩ (.int .i64 (K + 1 + 1 + 1 + 1))).setCell ⟨b, off + j * 8 + 5, none⟩ (.int .i64 (K + 1 + 1 + 1 + 1 + 1))) ∧ Hid (RmSt wr b (off + j * 8) (c j).1 (c j).2 vv0 v' ⟨K, K + 1, K + 1 + 1, K + 1 + 1 + 1, K + 1 + 1 + 1 + 1, K + 1 + 1 + 1 + 1 + 1, x.tx, x.sl⟩) := ⟨_, rfl, ((((((HS.out.s0 (K)).s1 (K + 1)).s2 (K + 1 + 1)).s3 (K + 1 + 1 + 1)).s4 (K + 1 + 1 + 1 + 1)).s5 (K + 1 + 1 + 1 + 1 + 1))⟩
        rw [← hv1]
        clear hv1 HS
        refine (markText_any _ _ (by omega)).mono ?_
        rintro e v2 ⟨rfl, hb⟩
        have HS2 := hide (HS1.out.below hb)
        clear hb HS1
        obtain ⟨d0, d1, d2, d3, d4, d5, d6, d7⟩ := HS2.out.cells
        have fz := HS2.out.frz
        go_wp2_with fail
        clear d0 d1 d2 d3 d4 d5 d6 d7 fz
        obtain ⟨v3, hv3, HS3⟩ : ∃ v', v' = (v2.setCell ⟨b, off + j * 8 + 6, none⟩ (.string (mtB (K + 1 + 1 + 1 + 1 + 1 + 1)))) ∧ Hid (RmSt wr b (off + j * 8) (c j).1 (c j).2 vv0 v' ⟨K, K + 1, K + 1 + 1, K + 1 + 1 + 1, K + 1 + 1 + 1 + 1, K + 1 + 1 + 1 + 1 + 1, mtB (K + 1 + 1 + 1 + 1 + 1 + 1), x.sl⟩) := ⟨_, rfl, (HS2.out.s6 (mtB (K + 1 + 1 + 1 + 1 + 1 + 1)))⟩
        rw [← hv3]
        clear hv3 HS2
        refine (markRss_two _ _ _ x.sl _ _ HS3.out.l0 hs0 (by omega) (by omega)).mono ?_
        rintro e v4 ⟨rfl, ht, hl⟩
        have HS4 : Hid (RmSt wr b (off + j * 8) (c j).1 (c j).2 vv0 v4 ⟨K, K + 1, K + 1 + 1, K + 1 + 1 + 1, K + 1 + 1 + 1 + 1, K + 1 + 1 + 1 + 1 + 1, mtB (K + 1 + 1 + 1 + 1 + 1 + 1), mkRss (K + 1 + 1 + 1 + 1 + 1 + 1 + 1) x.sl⟩) := HS3.out.m0' ht hl
        clear ht hl HS3
        obtain ⟨d0, d1, d2, d3, d4, d5, d6, d7⟩ := HS4.out.cells
        have fz := HS4.out.frz
        go_wp2
        clear d0 d1 d2 d3 d4 d5 d6 d7 fz
        have HW : Hid (wdRm Xl[j] = 7 + 2 * x.sl.length) := by unfold Hid; rw [← HXJ.out, ← HXX.out]; rfl
        have HQ : Hid ((K + 1 + 1 + 1 + 1 + 1 + 1 + 1 + 2 * (x.sl.length : Int) : Int) = k + (posRm Xl (j + 1) : Int)) := by
          have h1 := HP.out
          have h2 := HW.out
          have h3 := HK.out
          unfold Hid
          omega
        have HRN := hide (HR.out.near hlt HS4.out.near (show RmOne b (off + j * 8) (c j).1 (c j).2 v4 (mkRm K x) from ⟨⟨mt_size _ (by omega)⟩, _, HS4.out.q0, HS4.out.cells, HS4.out.l0⟩))
        have HTN := hide (HS4.out.near.wide HR.out.lt (lo' := lo) (hi' := hi) (HR.out.seg j hlt).1 (HR.out.seg j hlt).2.1 ⟨HR.out.low, HR.out.bh⟩)
        go_roundw
        case rel =>
          refine ⟨j + 1, by go_num, congrArg (Value.int .i64) HQ.out, by omega, HT.out.trans HTN.out, HRN.out.to (fun i hi' => ?_)⟩
          by_cases e : i = j
          · subst e
            rw [if_pos rfl, if_pos (by omega), ← HK.out, HXX.out]
          · rw [if_neg e]
            by_cases e2 : i < j
            · rw [if_pos e2, if_pos (by omega)]
            · rw [if_neg e2, if_neg (by omega)]
        case measure => simp [intOf]; omega
      · have e : j = Xl.length := by omega
        subst e
        go_wp2
        go_ret
        refine ⟨rfl, HT.out, Or.inr ⟨b, off, cap, c, fun i => mkRm (k + (posRm Xl i : Int)) (X i), by rw [mkRms_len], ?_, by rw [mkRms_len]; exact HM.out, by rw [mkRms_len]; exact HC.out, fun i h => ?_, ?_⟩⟩
        · intro e
          have := congrArg List.length e
          rw [mkRms_len] at this
          exact HNE.out (List.length_eq_zero_iff.1 (by simpa using this))
        · have h' : i < Xl.length := by rw [mkRms_len] at h; exact h
          rw [mkRms_get _ _ _ _ h', ← HX.out i h']
        · rw [mkRms_len]
          exact HR.out.to (fun i hi' => by rw [if_pos hi'])
end Go.Proofs.Ytlednecohppljaa
namespace Go.Proofs.Ytlednecohppljaa
open Go.RowKit Go.Deep

def tyL (s : ByteArray) : List Value := [.string s]
def inL (x : Int) : List Value := [.int .i64 x]
abbrev MX := Rm × Option Addr × Nat
abbrev AX := Ra × Option Addr × Nat
def mxL (x : MX) : List Value := rmL x.1 x.2.1 x.2.2
def axL (x : AX) : List Value := raL x.1 x.2.1 x.2.2
theorem tyL_len (s : ByteArray) : (tyL s).length = 1 := rfl
theorem inL_len (s : Int) : (inL s).length = 1 := rfl
theorem mxL_len (s : MX) : (mxL s).length = 8 := rfl
theorem axL_len (s : AX) : (axL s).length = 2 := rfl
theorem tyL_one (L : List ByteArray) : ∀ u ∈ flatV tyL L, u.oneCell' = true := fun u hu => by
  obtain ⟨x, -, hx⟩ := flatV_mem hu
  simp only [tyL, List.mem_cons, List.not_mem_nil, or_false] at hx
  rw [hx]; rfl
theorem inL_one (L : List Int) : ∀ u ∈ flatV inL L, u.oneCell' = true := fun u hu => by
  obtain ⟨x, -, hx⟩ := flatV_mem hu
  simp only [inL, List.mem_cons, List.not_mem_nil, or_false] at hx
  rw [hx]; rfl
theorem mxL_one (L : List MX) : ∀ u ∈ flatV mxL L, u.oneCell' = true := fun u hu => by
  obtain ⟨x, -, hx⟩ := flatV_mem hu
  simp only [mxL, rmL, List.mem_cons, List.not_mem_nil, or_false] at hx
  rcases hx with rfl | rfl | rfl | rfl | rfl | rfl | rfl | rfl <;> rfl
theorem axL_one (L : List AX) : ∀ u ∈ flatV axL L, u.oneCell' = true := fun u hu => by
  obtain ⟨x, -, hx⟩ := flatV_mem hu
  simp only [axL, raL, List.mem_cons, List.not_mem_nil, or_false] at hx
  rcases hx with rfl | rfl <;> rfl
theorem infoTx : (Try.prog.info? 9).map (fun i => (i.zero, i.size, i.bytes)) = some (some (.string ⟨#[]⟩), 1, 16) := by kernel_rfl
theorem infoIn : (Try.prog.info? 3).map (fun i => (i.zero, i.size, i.bytes)) = some (some (.int .i64 0), 1, 8) := by kernel_rfl
/-- what rows that grow say of memory -/
theorem FRow.rts {w : World} {lo hi : Nat} {v : Value} {L : List ByteArray} (h : FRow tyL 1 w lo hi v L) (hz : ∀ i (h : i < L.length), L[i].size ≤ maxLen) : RtsOwn lo hi w v L := by
  obtain ⟨g, cap, h1, h2⟩ := h
  by_cases hL : L = []
  · subst hL; exact Or.inl ⟨_, _, h1, rfl⟩
  · refine Or.inr ⟨g, 0, cap, h1, hL, Nat.le_trans h2.le h2.mx, h2.le, h2.lt, fun i hi => ⟨hz i hi, ?_⟩, h2.bs, h2.up, fun i => h2.fz _⟩
    have := h2.get tyL_len hi (t := 0) (by omega) (v := .string L[i]) rfl
    rwa [show i * 1 + 0 = 0 + i by omega] at this
theorem FRow.ris {w : World} {lo hi : Nat} {v : Value} {L : List Int} (h : FRow inL 1 w lo hi v L) : RisOwn lo hi w v L := by
  obtain ⟨g, cap, h1, h2⟩ := h
  by_cases hL : L = []
  · subst hL; exact Or.inl ⟨_, _, h1, rfl⟩
  · refine Or.inr ⟨g, 0, cap, h1, hL, Nat.le_trans h2.le h2.mx, h2.le, h2.lt, fun i hi => ?_, h2.bs, h2.up, fun i => h2.fz _⟩
    have := h2.get inL_len hi (t := 0) (by omega) (v := .int .i64 L[i]) rfl
    rwa [show i * 1 + 0 = 0 + i by omega] at this
theorem FRow.rss {w : World} {lo hi : Nat} {v : Value} {L : List Rs} (h : FRow rsL 2 w lo hi v L) (hz : ∀ i (h : i < L.length), RsSize L[i]) : RssOwn lo hi w v L := by
  obtain ⟨g, cap, h1, h2⟩ := h
  by_cases hL : L = []
  · subst hL; exact Or.inl ⟨_, _, h1, rfl⟩
  · have h0 : 0 < L.length := List.length_pos_iff.2 hL
    refine Or.inr ⟨g, 0, cap, fun _ => g + 1, fun i => if h : i < L.length then L[i] else L[0], h1, hL, Nat.le_trans h2.le h2.mx, h2.le, fun i hi => by simp [hi], h2.lt, h2.bs, Nat.lt_succ_self _, h2.up, fun _ _ => Nat.le_refl _, h2.up, h2.fz, fun i hi => ?_⟩
    simp only [hi, dif_pos]
    have e0 := h2.get rsL_len hi (t := 0) (by omega) (v := .int .i64 L[i].ba) rfl
    have e1 := h2.get rsL_len hi (t := 1) (by omega) (v := .string L[i].tx) rfl
    exact ⟨hz i hi, ⟨by rw [Nat.zero_add]; exact e0, by rw [Nat.zero_add]; exact e1⟩⟩
theorem FRow.rms {w : World} {lo hi lo' : Nat} {v : Value} {L : List MX} (h : FRow mxL 8 w lo hi v L) (hlo : lo' ≤ lo) (hz : ∀ i (h : i < L.length), RssAt lo' w (.slice L[i].2.1 L[i].1.sl.length L[i].2.2) L[i].1.sl ∧ L[i].1.tx.size ≤ maxLen) : RmsAt lo' w v (L.map (·.1)) := by
  obtain ⟨g, cap, h1, h2⟩ := h
  by_cases hL : L = []
  · subst hL; exact Or.inl ⟨_, _, h1, rfl⟩
  · refine Or.inr ⟨g, 0, cap, by rw [List.length_map]; exact h1, by simpa using hL, by rw [List.length_map]; exact Nat.le_trans h2.le h2.mx, h2.lt, Nat.le_trans hlo h2.bs, by rw [List.length_map]; exact h2.le, fun i hi => ?_⟩
    rw [List.length_map] at hi
    obtain ⟨z1, z2⟩ := hz i hi
    refine ⟨mxL L[i], fun j u hu => ?_, L[i].2.1, L[i].2.2, by simp [mxL], by simp only [List.getElem_map]; exact ⟨z1, z2⟩⟩
    have hj : j < 8 := by have := (List.getElem?_eq_some_iff.1 hu).1; rwa [mxL_len] at this
    have := h2.get mxL_len hi hj hu
    rwa [show 0 + i * 8 + j = i * 8 + j by omega]
theorem FRow.ras {w : World} {lo hi lo' : Nat} {v : Value} {L : List AX} (h : FRow axL 2 w lo hi v L) (hlo : lo' ≤ lo) (hz : ∀ i (h : i < L.length), RisAt lo' w (.slice L[i].2.1 L[i].1.fr.length L[i].2.2) L[i].1.fr) : RasAt lo' w v (L.map (·.1)) := by
  obtain ⟨g, cap, h1, h2⟩ := h
  by_cases hL : L = []
  · subst hL; exact Or.inl ⟨_, _, h1, rfl⟩
  · refine Or.inr ⟨g, 0, cap, by rw [List.length_map]; exact h1, by simpa using hL, by rw [List.length_map]; exact Nat.le_trans h2.le h2.mx, h2.lt, Nat.le_trans hlo h2.bs, by rw [List.length_map]; exact h2.le, fun i hi => ?_⟩
    rw [List.length_map] at hi
    refine ⟨axL L[i], fun j u hu => ?_, L[i].2.1, L[i].2.2, by simp [axL], by simp only [List.getElem_map]; exact ⟨hz i hi⟩⟩
    have hj : j < 2 := by have := (List.getElem?_eq_some_iff.1 hu).1; rwa [axL_len] at this
    have := h2.get axL_len hi hj hu
    rwa [show 0 + i * 2 + j = i * 2 + j by omega]
/-- sources of an append -/
theorem RtsAt.src {lo : Nat} {w : World} {ao : Option Addr} {n cap : Nat} {L : List ByteArray} (h : RtsAt lo w (.slice ao n cap) L) : ∀ ad, ao = some ad → ∀ j u, (flatV tyL L)[j]? = some u → w.cell? (ad.add j) = some u := by
  rintro ad rfl j u hu
  have hj := (List.getElem?_eq_some_iff.1 hu).1
  rw [flatV_len tyL_len] at hj
  obtain ⟨b, off, e, -, -, hc⟩ := h.full' (by omega)
  injection e with e
  subst e
  have := flatV_get tyL_len L j 0 (by omega) (by omega)
  rw [show j * 1 + 0 = j by omega, hu] at this
  have hu' : u = .string (L[j]'(by omega)) := by simpa [tyL] using this
  rw [hu', Addr.add_lit]
  exact (hc j (by omega)).2
theorem RisAt.src {lo : Nat} {w : World} {ao : Option Addr} {n cap : Nat} {L : List Int} (h : RisAt lo w (.slice ao n cap) L) : ∀ ad, ao = some ad → ∀ j u, (flatV inL L)[j]? = some u → w.cell? (ad.add j) = some u := by
  rintro ad rfl j u hu
  have hj := (List.getElem?_eq_some_iff.1 hu).1
  rw [flatV_len inL_len] at hj
  obtain ⟨b, off, e, -, -, hc⟩ := h.full' (by omega)
  injection e with e
  subst e
  have := flatV_get inL_len L j 0 (by omega) (by omega)
  rw [show j * 1 + 0 = j by omega, hu] at this
  have hu' : u = .int .i64 (L[j]'(by omega)) := by simpa [inL] using this
  rw [hu', Addr.add_lit]
  exact (hc j (by omega)).2
theorem RtsAt.nilN {lo : Nat} {w : World} {ao : Option Addr} {n cap : Nat} {L : List ByteArray} (h : RtsAt lo w (.slice ao n cap) L) : ao = none → L.length = 0 := by
  rintro rfl
  rcases h with ⟨_, _, _, rfl⟩ | ⟨_, _, _, h1, _⟩
  · rfl
  · injection h1 with e; cases e
theorem RisAt.nilN {lo : Nat} {w : World} {ao : Option Addr} {n cap : Nat} {L : List Int} (h : RisAt lo w (.slice ao n cap) L) : ao = none → L.length = 0 := by
  rintro rfl
  rcases h with ⟨_, _, _, rfl⟩ | ⟨_, _, _, h1, _⟩
  · rfl
  · injection h1 with e; cases e
theorem RtsAt.sizes {lo : Nat} {w : World} {v : Value} {L : List ByteArray} (h : RtsAt lo w v L) : ∀ i (hi : i < L.length), L[i].size ≤ maxLen := by
  intro i hi
  obtain ⟨_, _, _, _, _, _, _, hc⟩ := h.full (fun e => by rw [e] at hi; simp at hi)
  exact (hc i hi).1
/-- a row that was new at w and is of one's own now -/
theorem FRow.fresh {X : Type} {f : X → List Value} {n : Nat} {w w' : World} {v : Value} {L : List X} (h : FRow f n w' w.heap.size (w.heap.size + 1) v L ∨ FRow f n w' (w.heap.size + 1) w'.heap.size v L) (hs : w.heap.size + 1 ≤ w'.heap.size) : FRow f n w' w.heap.size w'.heap.size v L := by
  rcases h with h | h
  · exact h.wide (Nat.le_refl _) hs
  · exact h.wide (by omega) (Nat.le_refl _)

set_option maxRecDepth 20000 in
set_option maxHeartbeats 4000000 in
theorem slotsF_any (lo : Nat) (v : Value) (L : List Rs) (w : World) (hv : RssAt lo w v L) (hn : L.length ≤ 1048576) :
    Calls Try.prog 22 #[v] w fun e w' => ∃ v', e = .returned v' ∧ Below w.heap.size w w' ∧ FRow rsL 2 w' w.heap.size w'.heap.size v' L := by
  have HV := hide hv
  obtain ⟨a, cap, rfl⟩ := hv.form
  clear hv
  have HO : ∀ o, Hid (Below w.heap.size w (w.alloc o)) := fun o => one_al w o
  go_enter Try.func22, Try.ntmps22
  go_wp2_with (at_builtin; refine wpList_fr rsL_len (by decide) Try.underlying24 infoRs rfl (w := w.alloc _) (lo := w.heap.size) (hi' := w.heap.size + 1) (L := []) L rfl (.tmp 3) (.tmp 4) rfl rfl ⟨w.heap.size, 0, rfl, fr_new rsL 2 w _ _ 0 rfl (Nat.zero_le _)⟩ a L.length cap rfl rfl (fun e => HV.out.nilN e) ((HV.out.below (HO _).out).src) (rsL_one L) (by simp; omega) (by decide) ?_; intro v' w' h1 h2; have H1 := hide h1; have H2 := hide h2; clear h1 h2)
  go_ret
  have hsz : w.heap.size + 1 ≤ w'.heap.size := by have := H1.out.size; simp at this; omega
  refine ⟨v', rfl, (HO _).out.trans (H1.out.under (by simp)), ?_⟩
  have h2 := H2.out
  rw [List.nil_append] at h2
  exact FRow.fresh (by simpa using h2) hsz
end Go.Proofs.Ytlednecohppljaa
