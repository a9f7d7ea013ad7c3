import Derived.Test.YtdeammfdkaomlaaGreatV36
import Derived.Test.YtdeammfdkaomlaaGreatV37
import Derived.Test.YtdeammfdkaomlaaGreatV48
namespace Go.Proofs.YtdeammfdkaomlaaGreat
open Go.RowKit Go.Deep

/-! rows of teams of the call's own: append to nothing, append to an empty list -/
def tmL (x : Tm) : List Value := [.string x.nm, .string x.ov]
theorem tmL_len (x : Tm) : (tmL x).length = 2 := rfl
theorem tm_flat : ∀ L : List Tm, flatV tmL L = Tmvs L
  | [] => rfl
  | x :: L => by simp only [flatV, tmL, Tmvs, tm_flat L]; rfl
theorem tmL_one : ∀ (L : List Tm), ∀ u ∈ flatV tmL L, u.oneCell' = true
  | [], u, hu => by simp [flatV] at hu
  | x :: L, u, hu => by
    simp only [flatV, tmL, List.cons_append, List.nil_append, List.mem_cons] at hu
    rcases hu with rfl | rfl | hu
    · rfl
    · rfl
    · exact tmL_one L u hu
theorem infoTmz : (Tryz.prog.info? 138).map (fun i => (i.zero, i.size, i.bytes)) = some (some (.agg #[.string ⟨#[]⟩, .string ⟨#[]⟩]), 2, 32) := by kernel_rfl
theorem TmsAt.src {lo : Nat} {w W : World} {a : Option Addr} {cap : Nat} {L : List Tm} (h : TmsAt lo w (.slice a L.length cap) L) (hb : Below w.heap.size w W) : ∀ ad, a = some ad → ∀ j u, (flatV tmL L)[j]? = some u → W.cell? (ad.add j) = some u := by
  intro ad e
  subst e
  rw [tm_flat]
  exact Tmvs_news h hb
theorem TmsAt.nilN {lo : Nat} {w : World} {a : Option Addr} {n cap : Nat} {L : List Tm} (h : TmsAt lo w (.slice a n cap) L) : a = none → L.length = 0 := fun e => by
  rcases h with ⟨_, _, _, hx⟩ | ⟨_, _, _, h, _⟩
  · rw [hx]; rfl
  · injection h with h; rw [e] at h; cases h
theorem TmsAt.sizes {lo : Nat} {w : World} {a : Option Addr} {cap : Nat} {L : List Tm} (h : TmsAt lo w (.slice a L.length cap) L) : ∀ i (hi : i < L.length), TmSize L[i] := fun i hi => by
  obtain ⟨_, _, _, _, hc⟩ := h.full' (by omega)
  exact (hc i hi).1
theorem frow_tms {lo hi : Nat} {w : World} {v : Value} {L : List Tm} (h : FRow tmL 2 w lo hi v L) (hz : ∀ i (hi : i < L.length), TmSize L[i]) : TmsOwn lo hi w v L := by
  obtain ⟨g, cap, rfl, h⟩ := h
  by_cases hL : L = []
  · subst hL
    exact Or.inl ⟨_, _, rfl, rfl⟩
  · have h0 : 0 < L.length := List.length_pos_iff.2 hL
    refine Or.inr ⟨g, 0, cap, fun _ => g + 1, fun i => if h : i < L.length then L[i] else L[0], rfl, hL, Nat.le_trans h.le h.mx, h.le, fun i hi => by simp [hi], h.lt, h.bs, Nat.lt_succ_self _, h.up, fun _ _ => Nat.le_refl _, h.up, h.fz, fun i hi => ?_⟩
    simp only [hi, dif_pos]
    have c0 := h.get tmL_len hi (t := 0) (by decide) rfl
    have c1 := h.get tmL_len hi (t := 1) (by decide) rfl
    exact ⟨hz i hi, ⟨by rw [Nat.zero_add]; exact c0, by rw [Nat.zero_add]; exact c1⟩⟩
theorem nrow_tms {lo hi : Nat} {w : World} {v : Value} {L : List Tm} (h : NRow tmL 2 w lo hi v L) (hz : ∀ i (hi : i < L.length), TmSize L[i]) : TmsOwn lo hi w v L := by
  rcases h with ⟨rfl, rfl⟩ | h
  · exact Or.inl ⟨_, _, rfl, rfl⟩
  · exact frow_tms h hz

set_option maxRecDepth 20000 in
set_option maxHeartbeats 8000000 in
theorem l34House_any (cs : List Value) (U : Ho) (w : World) (h : HoC 0 w cs U) (hn : HoSmall U) :
    Calls Tryz.prog 28 #[.agg cs.toArray] w fun e w' => ∃ b0 m0 b1 m1, ∃ t0 t1 g0 g1 : Nat, e = .returned (.agg #[.slice b0 U.tm.length m0, .slice b1 U.gr.length m1]) ∧ Below w.heap.size w w' ∧
      TmsOwn t0 t1 w' (.slice b0 U.tm.length m0) U.tm ∧ GrsOwn g0 g1 w' (.slice b1 U.gr.length m1) U.gr ∧ w.heap.size ≤ t0 ∧ t0 ≤ t1 ∧ t1 ≤ w'.heap.size ∧ w.heap.size ≤ g0 ∧ g0 ≤ g1 ∧ g1 ≤ w'.heap.size ∧ (t1 ≤ g0 ∨ g1 ≤ t0) := by
  obtain ⟨a0, k0, a1, k1, rfl, h⟩ := h
  show Calls Tryz.prog 28 #[.agg #[.slice a0 U.tm.length k0, .slice a1 U.gr.length k1]] w _
  obtain ⟨hn0, hn1⟩ := hn
  have HLt := hide h.l0
  have HLg := hide h.l1
  have HN1 := hide hn1
  have nG := hn1.1
  unfold TmsFew at hn0
  clear h hn1
  obtain ⟨ig, hig, hzg, hzg1, hzg2⟩ := info_parts Tryz.info133
  have HIG := hide (And.intro hig (And.intro hzg (And.intro hzg1 hzg2)))
  clear hig hzg hzg1 hzg2
  go_enter Tryz.func28, Tryz.ntmps28
  go_upto_region 1 with fail
  obtain ⟨wz, hwz, FX, FR, HB⟩ : ∃ wz, wz = (w.alloc (.cells #[.slice a0 U.tm.length k0, .slice a1 U.gr.length k1] 30)).alloc (.cells #[.slice none 0 0, .slice none 0 0] 30) ∧
      Hid (Box wz w.heap.size #[.slice a0 U.tm.length k0, .slice a1 U.gr.length k1]) ∧ Hid (Box wz (w.heap.size + 1) #[.slice none 0 0, .slice none 0 0]) ∧ Hid (Below w.heap.size w wz) :=
    ⟨_, rfl, (Box.new w _ _ _ rfl).on (one_al _ _), Box.new _ _ _ _ (by simp), (one_al _ _).trans ((one_al _ _).mono (by simp))⟩
  rw [← hwz]
  clear hwz
  have hz0 : w.heap.size + 2 ≤ wz.heap.size := by have := FR.out.lt; omega
  have HO : ∀ o, Hid (Below wz.heap.size wz (wz.alloc o)) := fun o => one_al wz o
  have g0 := FX.out.cell
  have g1 : ∀ o i, (wz.alloc o).cell? ⟨w.heap.size, i, none⟩ = #[.slice a0 U.tm.length k0, .slice a1 U.gr.length k1][i]? := fun o i => ((FX.out.on (HO o).out).cell i)
  clear g0
  go_upto_region 2 with (at_builtin; go_loud (refine wpList_fr tmL_len (by decide) Tryz.underlying27 infoTmz rfl (w := wz.alloc _) (lo := wz.heap.size) (hi' := wz.heap.size + 1) (L := []) U.tm rfl (.tmp 6) (.tmp 8) rfl rfl ⟨wz.heap.size, 0, rfl, fr_new tmL 2 wz _ _ 0 rfl (Nat.zero_le _)⟩ a0 U.tm.length k0 rfl rfl (fun e => HLt.out.nilN e) (HLt.out.src (bt HB.out (HO _).out)) (tmL_one U.tm) (by simp; omega) (by decide) ?_); intro v' x0 h1 h2; have hf : ∃ a c, v' = .slice a U.tm.length c := (by rcases h2 with ⟨g, c, e, _⟩ | ⟨g, c, e, _⟩ <;> exact ⟨_, _, e⟩); obtain ⟨b0, m0, rfl⟩ := hf; have H1 := hide h1; have H2 := hide h2; clear h1 h2)
  obtain ⟨t0, t1, HT0, zt0, zt1, zt2⟩ : ∃ t0 t1 : Nat, Hid (TmsOwn t0 t1 x0 (.slice b0 U.tm.length m0) U.tm) ∧ w.heap.size + 2 ≤ t0 ∧ t0 ≤ t1 ∧ t1 ≤ x0.heap.size := by
    have hs1 := H1.out.size
    simp at hs1
    rcases H2.out with h | h
    · exact ⟨wz.heap.size, wz.heap.size + 1, frow_tms h HLt.out.sizes, by omega, by omega, by omega⟩
    · exact ⟨_, _, frow_tms h HLt.out.sizes, by simp; omega, by simpa using hs1, Nat.le_refl _⟩
  have HB0 : Hid (Below w.heap.size w x0) := (bt HB.out (HO _).out).trans (Below.mono (H1.out.under (by simp)) (by omega))
  have FX0 : Hid (Box x0 w.heap.size #[.slice a0 U.tm.length k0, .slice a1 U.gr.length k1]) := (FX.out.on (HO _).out).tch2 H1.out (Or.inl (by omega))
  have FR0 : Hid (Box x0 (w.heap.size + 1) #[.slice none 0 0, .slice none 0 0]) := (FR.out.on (HO _).out).tch2 H1.out (Or.inl (by omega))
  have hq0 : w.heap.size + 2 ≤ x0.heap.size := by have := FR0.out.lt; omega
  obtain ⟨q, hq⟩ : ∃ q, q = x0.heap.size := ⟨_, rfl⟩
  obtain ⟨x1, hx1, HB1, FX1, FR1, FO1, HT1, hs1⟩ : ∃ x1, x1 = x0.alloc (.cells #[.slice b0 U.tm.length m0, .slice none 0 0] 30) ∧ Hid (Below w.heap.size w x1) ∧ Hid (Box x1 w.heap.size #[.slice a0 U.tm.length k0, .slice a1 U.gr.length k1]) ∧ Hid (Box x1 (w.heap.size + 1) #[.slice none 0 0, .slice none 0 0]) ∧ Hid (Box x1 q #[.slice b0 U.tm.length m0, .slice none 0 0]) ∧ Hid (TmsOwn t0 t1 x1 (.slice b0 U.tm.length m0) U.tm) ∧ Hid (q + 1 = x1.heap.size) :=
    ⟨_, rfl, bt HB0.out (one_al _ _), FX0.out.on (one_al _ _), FR0.out.on (one_al _ _), hq ▸ Box.new _ _ _ _ rfl, HT0.out.below (one_al _ _), by unfold Hid; simp [hq]⟩
  rw [← hx1, ← hq]
  rw [← hq] at hq0 zt2
  clear hx1 hq HB0 FX0 FR0 HT0 H1 H2 FX FR HB HO g1 hz0 HLt
  go_wp2
  go_loopw [4] (fun i wr => ∃ (k : Nat) (L : List (Gr × Value)) (c : Nat → Nat × Nat) (u : Value), i = .int .i64 k ∧ k ≤ U.gr.length ∧ Below w.heap.size w wr ∧ Box wr w.heap.size #[.slice a0 U.tm.length k0, .slice a1 U.gr.length k1] ∧ Box wr (w.heap.size + 1) #[.slice none 0 0, .slice none 0 0] ∧ Box wr q #[.slice b0 U.tm.length m0, u] ∧ TmsOwn t0 t1 wr (.slice b0 U.tm.length m0) U.tm ∧ GrGrow (q + 1) wr u L c ∧ L.map Prod.fst = U.gr.take k ∧ q + 1 ≤ wr.heap.size) (fun i _ => U.gr.length - (intOf i).toNat)
  case atStart => exact ⟨0, [], _, .slice none 0 0, rfl, by omega, HB1.out, FX1.out, FR1.out, FO1.out, HT1.out, GrGrow.start _ _, by simp, Nat.le_of_eq hs1.out⟩
  case round =>
    clear HB1 FX1 FR1 FO1 HT1 hs1
    obtain ⟨k', L, c, u, rfl, hk', hb, bx, br, bo, htm, hg, hX, hsz'⟩ := hrel
    have HB := hide hb
    have BX := hide bx
    have BR := hide br
    have BO := hide bo
    have HT := hide htm
    have HG := hide hg
    have HX := hide hX
    have hLk' := take_map_len hX hk'
    subst hLk'
    have b4 := bx.cell 1
    have x4 := bo.cell 1
    simp at b4 x4
    clear hb bx br bo htm hg hX
    by_cases hlt : L.length < U.gr.length
    · obtain ⟨b, off, rfl, hbw, -, hc⟩ := HLg.out.full' (by omega)
      obtain ⟨hs, vv0, hc, hv0⟩ := hc L.length hlt
      obtain ⟨p0, q0, rfl⟩ := hv0.form
      obtain ⟨c0, c1, c2, c3, c4, c5, c6⟩ := hc.below HB.out hbw
      have HV0 := hide (hv0.below HB.out)
      have HSZ := hide hs
      clear hc hv0 hs
      go_wp2_with fail
      clear c0 c1 c2 c3 c4 c5 c6
      generalize hWx : wr.alloc _ = Wx
      have HWx : Hid (Below wr.heap.size wr Wx) := by rw [← hWx]; exact one_al _ _
      have hsx : Wx.heap.size = wr.heap.size + 1 := by rw [← hWx]; simp
      have FG : Hid (Box Wx wr.heap.size #[.int .i64 U.gr[L.length].nu, .string U.gr[L.length].tw, .string U.gr[L.length].gb, .slice p0 U.gr[L.length].vb.length q0, .string U.gr[L.length].kd, .string U.gr[L.length].tm, .string U.gr[L.length].pf]) := by rw [← hWx]; exact Box.new _ _ _ _ rfl
      clear hWx
      refine (l5RuleO_any 0 U.gr[L.length].ru _ _ (HV0.out.below HWx.out) (HN1.out.2 L.length hlt)).mono ?_
      rintro e w1 ⟨z0, rfl, hb1, hO0⟩
      obtain ⟨s0, r0, rfl⟩ := hO0.form
      have hs1 := hb1.size
      have HW1 : Hid (Below wr.heap.size wr w1) := bt HWx.out hb1
      have FG1 := hide (FG.out.on hb1)
      have HI0 : Hid (IntsOwn Wx.heap.size w1.heap.size w1 (.slice s0 U.gr[L.length].vb.length r0) U.gr[L.length].vb) := hO0
      have y4 : w1.cell? ⟨q, 1, none⟩ = some u := (HW1.out.cell (p := ⟨q, 1, none⟩) (by simp only []; omega)).trans x4
      clear hO0 hb1 HWx FG
      have g0 := FG1.out.cell
      have g1 := FG1.out.free
      have hq1 : wr.heap.size < Wx.heap.size := by omega
      go_wp2_with (at_builtin
                   refine wpList_append_lies _ rfl (.tmp 28) (.tmp 30) 28 rfl (q + 1) 133 ig (.agg #[.int .i64 0, .string ⟨#[]⟩, .string ⟨#[]⟩, .slice none 0 0, .string ⟨#[]⟩, .string ⟨#[]⟩, .string ⟨#[]⟩]) 7 112 Tryz.underlying28 HIG.out.1 HIG.out.2.1 HIG.out.2.2.1 HIG.out.2.2.2 rfl (by decide) u L.length (Grgs L) rfl (Below.ownsB HG.out.own (below_q4 HW1.out _ _ _ _ _ _ _ _ _)) ⟨w1.heap.size, 0, none⟩ 1 1 (Grcs (U.gr[L.length], .slice s0 U.gr[L.length].vb.length r0)) rfl rfl (cell_new7 _ _ _ _ (size_q4 _ _ _ _ _ _ _ _ _ _)) (grcs_one _ _ _ _) (by decide) (by unfold maxLen; omega) (by omega) (Nat.le_trans hsz' (below_q4 HW1.out _ _ _ _ _ _ _ _ _).size) _ rfl ?_
                   intro g cap w4 hown4 hgrow4 hat4 hlt4
                   have HBM : Hid (Below (q + 1) wr w4) := ((below_q4 HW1.out _ _ _ _ _ _ _ _ _).mono hsz').trans (ownsB_grown (Below.ownsB HG.out.own (below_q4 HW1.out _ _ _ _ _ _ _ _ _)) hgrow4 (Nat.le_trans hsz' (below_q4 HW1.out _ _ _ _ _ _ _ _ _).size))
                   have y5 : w4.cell? ⟨q, 1, none⟩ = some u := (HBM.out.cell (p := ⟨q, 1, none⟩) (by simp only []; omega)).trans x4
                   have BO4 : Hid (Box w4 q #[.slice b0 U.tm.length m0, u]) := BO.out.below HBM.out (Nat.lt_succ_self _)
                   have y6 : w4.frozen? ⟨q, 1, none⟩ = false := BO4.out.free 1
                   have HGN : Hid (GrGrow (q + 1) w4 (.slice (some ⟨g, 0, none⟩) (L.length + 1) cap) (L ++ [(U.gr[L.length], .slice s0 U.gr[L.length].vb.length r0)]) (fun i => if i < L.length then c i else (Wx.heap.size, w1.heap.size))) :=
                     HG.out.snoc (below_q4 HW1.out _ _ _ _ _ _ _ _ _) (U.gr[L.length], .slice s0 U.gr[L.length].vb.length r0) HSZ.out (Nat.le_of_lt hq1) (size_q4' _ _ _ _ _ _ _ _ _ _ _) hsz' hs1 (ints_q4 HI0.out hq1 _ _ _ _ _ _ _ _ _) hown4 hgrow4 hat4
                   clear hown4 hgrow4 hat4)
      go_roundw
      case rel => exact ⟨L.length + 1, L ++ [(U.gr[L.length], .slice s0 U.gr[L.length].vb.length r0)], _, _, by go_num, by omega, (HB.out.trans (HBM.out.mono (by omega))).setCell (by simp only []; omega) _, (BX.out.below HBM.out (by omega)).setFar (by simp only []; omega) _, (BR.out.below HBM.out (by omega)).setFar (by simp only []; omega) _, BO4.out.set (k := 1) _ (by simp), (HT.out.touch (Touch.ofBelow HBM.out) (Or.inl (by omega))).touch (Touch.setCell q (q + 1) _ ⟨q, 1, none⟩ _ ⟨Nat.le_refl _, Nat.lt_succ_self _⟩) (Or.inl (by omega)), HGN.out.touch (Touch.setCell q (q + 1) _ ⟨q, 1, none⟩ _ ⟨Nat.le_refl _, Nat.lt_succ_self _⟩) (Nat.le_refl _), take_map_snoc HX.out hlt rfl, by have := HBM.out.size; simp [World.setCell]; omega⟩
      case measure => simp [intOf]; omega
    · have HGB : Hid (GrsOwn (q + 1) wr.heap.size wr u U.gr) := HG.out.owns (by rw [HX.out, show L.length = U.gr.length by omega, List.take_length])
      obtain ⟨b1, m1, rfl⟩ := HGB.out.form
      have hge : (U.gr.length : Int) ≤ (L.length : Int) := by omega
      have o0 := BO.out.cell
      have r0 := BR.out.cell
      have r1 := BR.out.free
      clear HG HX x4
      go_wp2
      obtain ⟨y, hy, HBy, HTy, HGy, gy, hsy⟩ : ∃ y, y = (wr.setCell ⟨w.heap.size + 1, 0, none⟩ (.slice b0 U.tm.length m0)).setCell ⟨w.heap.size + 1, 1, none⟩ (.slice b1 U.gr.length m1) ∧ Hid (Below w.heap.size w y) ∧ Hid (TmsOwn t0 t1 y (.slice b0 U.tm.length m0) U.tm) ∧ Hid (GrsOwn (q + 1) wr.heap.size y (.slice b1 U.gr.length m1) U.gr) ∧ Hid (Box y (w.heap.size + 1) #[.slice b0 U.tm.length m0, .slice b1 U.gr.length m1]) ∧ Hid (y.heap.size = wr.heap.size) := by
        refine ⟨_, rfl, ?_, ?_, ?_, ?_, ?_⟩
        · exact (HB.out.setCell (by simp only []; omega) _).setCell (by simp only []; omega) _
        · exact (HT.out.touch (Touch.setCell (w.heap.size + 1) (w.heap.size + 2) _ ⟨w.heap.size + 1, 0, none⟩ _ ⟨Nat.le_refl _, Nat.lt_succ_self _⟩) (by omega)).touch (Touch.setCell (w.heap.size + 1) (w.heap.size + 2) _ ⟨w.heap.size + 1, 1, none⟩ _ ⟨Nat.le_refl _, Nat.lt_succ_self _⟩) (by omega)
        · exact (HGB.out.setLow (by simp only []; omega) _).setLow (by simp only []; omega) _
        · exact (BR.out.set (k := 0) (.slice b0 U.tm.length m0) (by simp)).set (k := 1) (.slice b1 U.gr.length m1) (by simp)
        · unfold Hid; simp [World.setCell]
      rw [← hy]
      have g0 := gy.out.cell 0
      have g1 := gy.out.cell 1
      have hsz := hsy.out
      refine bodyPost_ret (v := .agg #[.slice b0 U.tm.length m0, .slice b1 U.gr.length m1]) (by simp [results, Tryz.results28, go_sem, g0, g1]) rfl ⟨b0, m0, b1, m1, t0, t1, q + 1, wr.heap.size, rfl, HBy.out, HTy.out, HGy.out, by omega, by omega, by omega, by omega, by omega, by omega, by omega⟩
end Go.Proofs.YtdeammfdkaomlaaGreat
