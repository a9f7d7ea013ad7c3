import Derived.Test.YtpdlcccnlciecaaGreatV23
import Derived.Test.YtpdlcccnlciecaaGreatV24
import Derived.Test.YtpdlcccnlciecaaGreatV25
namespace Go.Proofs.YtpdlcccnlciecaaGreat
open Go.RowKit Go.Deep

/-- which of a service's copies are meant -/
def someQ (B : Sb) (x : Sv) (which : Int) (c : Cp) : Bool := if which = 2 then c.im != x.im else if which = 6 then drB B c else c.st == 4
def someP (B : Sb) (x : Sv) (which : Int) (P : List Nat) : List Nat := P.filter (atP (someQ B x which) B.cs)
theorem getP_some (B : Sb) (x : Sv) (which : Int) (P : List Nat) : getP B.cs (someP B x which P) = (getP B.cs P).filter (someQ B x which) := getP_filter _ _ _
theorem someP_len (B : Sb) (x : Sv) (which : Int) (P : List Nat) : (someP B x which P).length ≤ P.length := List.length_filter_le _ _
theorem someP_step {B : Sb} {x : Sv} {which : Int} {P : List Nat} {j : Nat} (h : j < P.length) (hc : P[j] < B.cs.length) : someP B x which (P.take (j + 1)) = someP B x which (P.take j) ++ (if someQ B x which B.cs[P[j]] then [P[j]] else []) := by
  unfold someP
  rw [List.take_succ_eq_append_getElem h, List.filter_append, List.filter_cons, atP_at hc]
  rfl
/-- numbers in a block between two bounds -/
def NumsZ (w : World) (lo hi : Nat) (a : Option Addr) (P : List Nat) : Prop := ∀ i (h : i < P.length), ∃ g, a = some ⟨g, 0, none⟩ ∧ lo ≤ g ∧ g < hi ∧ w.cell? ⟨g, i, none⟩ = some (.int .i64 (P[i] : Int))
theorem NumsZ.of {w : World} {base : Nat} {a : Option Addr} {n k : Nat} {P : List Nat} (h : IRow w base (.slice a n k) P) : NumsZ w base w.heap.size a P := fun i hi => by
  obtain ⟨g, cap, hge, hg1, hgb, hgc⟩ := h.at hi
  injection hge with hga
  exact ⟨g, hga, hgb, hg1, hgc⟩
theorem NumsZ.kept {w w' : World} {lo hi : Nat} {a : Option Addr} {P : List Nat} (h : NumsZ w lo hi a P) (hk : ∀ g, lo ≤ g → g < hi → w'.heap[g]? = w.heap[g]?) : NumsZ w' lo hi a P := fun i hi' => by
  obtain ⟨g, h1, h2, h3, h4⟩ := h i hi'
  exact ⟨g, h1, h2, h3, (World.cell?_of_block (a := ⟨g, i, none⟩) (hk g h2 h3)).trans h4⟩

set_option maxRecDepth 100000 in
set_option maxHeartbeats 16000000 in
theorem l16Some_any (lo : Nat) (sv cv bv : Value) (B : Sb) (x : Sv) (which : Int) (hwh : which = 2 ∨ which = 6 ∨ which = 3) (w : World) (h : SbAt lo w sv cv bv B) (hl : B.cs.length ≤ 200) :
    Calls Tryz.prog 43 #[.agg #[.int .i64 B.now, sv, cv, bv], .agg #[.string x.nm, .int .i64 x.ve, .bool x.gn, .int .i64 x.im, .int .i64 x.wa, .int .i64 x.dn, .int .i64 x.ov, .int .i64 x.nx, .int .i64 x.pr, .int .i64 x.ls, .int .i64 x.ms, .int .i64 x.ld, .int .i64 x.cl], .int .i64 which] w fun e w' => ∃ v, e = .returned v ∧ Below w.heap.size w w' ∧ IRow w' w.heap.size v (someP B x which (plc (liveB x.nm) B.cs B.cs.length)) := by
  have HK := hide h
  have HWH := hide hwh
  obtain ⟨i1, hi1, hz1, hy1, hx1⟩ := info_parts Tryz.infoI
  have HI1 := hide (And.intro hi1 (And.intro hz1 (And.intro hy1 hx1)))
  obtain ⟨a0, k0, rfl⟩ := h.svs.form
  obtain ⟨a1, k1, rfl⟩ := h.cps.form
  obtain ⟨a2, k2, rfl⟩ := h.bes.form
  clear h hi1 hz1 hy1 hx1 hwh
  go_enter Tryz.func43, Tryz.ntmps43
  go_wp2_with fail
  generalize hWa : World.alloc (World.alloc (w.alloc _) _) _ = Wa
  have HB : Hid (Below w.heap.size w Wa) := by unfold Hid; rw [← hWa]; exact ((one_al w _).alloc (by simp) _).alloc (by simp; omega) _
  have F1 : Hid (Box Wa w.heap.size #[.int .i64 B.now, .slice a0 B.ss.length k0, .slice a1 B.cs.length k1, .slice a2 B.bs.length k2]) := by unfold Hid; rw [← hWa]; exact ((Box.new _ _ _ _ rfl).on (one_al _ _)).on (one_al _ _)
  have FS : Hid (Box Wa (w.heap.size + 1) #[.string x.nm, .int .i64 x.ve, .bool x.gn, .int .i64 x.im, .int .i64 x.wa, .int .i64 x.dn, .int .i64 x.ov, .int .i64 x.nx, .int .i64 x.pr, .int .i64 x.ls, .int .i64 x.ms, .int .i64 x.ld, .int .i64 x.cl]) := by unfold Hid; rw [← hWa]; exact (Box.new _ _ _ _ (by simp)).on (one_al _ _)
  have OW : Hid (IRow Wa (w.heap.size + 1 + 1) (.slice (some ⟨w.heap.size + 1 + 1, 0, none⟩) 0 0) []) := by unfold Hid IRow; rw [← hWa]; exact ownsB_made _ _ _ _ (by simp) (Nat.le_refl _)
  have hsz : Wa.heap.size = w.heap.size + 3 := by rw [← hWa]; simp
  clear hWa
  refine (l16Live_any lo _ _ _ B x.nm _ (HK.out.below HB.out) (by omega)).mono ?_
  rintro e w1 ⟨v, rfl, hb1, hrow⟩
  replace HB := hide (bt HB.out hb1)
  replace F1 := hide (F1.out.on hb1)
  replace FS := hide (FS.out.on hb1)
  replace OW := hide (OW.out.below hb1)
  have hz1 := hb1.size
  have PM : Hid (∀ i ∈ plc (liveB x.nm) B.cs B.cs.length, i < B.cs.length) := fun i hi => plc_lt hi
  have pln : (plc (liveB x.nm) B.cs B.cs.length).length ≤ 200 := by
    unfold plc
    exact Nat.le_trans (List.length_filter_le _ _) (by simp; omega)
  generalize hPE : plc (liveB x.nm) B.cs B.cs.length = P at *
  have HPE := hide hPE
  clear hPE
  obtain ⟨a9, k9, rfl⟩ := hrow.form
  have HN := hide (NumsZ.of hrow)
  rw [hsz] at HN
  clear hb1 hrow
  go_wp2
  go_loopw [7, 9] (fun mm i wr => ∃ j : Nat, i = .int .i64 j ∧ j ≤ P.length ∧ Below w.heap.size w wr ∧ w1.heap.size ≤ wr.heap.size ∧ Box wr w.heap.size #[.int .i64 B.now, .slice a0 B.ss.length k0, .slice a1 B.cs.length k1, .slice a2 B.bs.length k2] ∧ Box wr (w.heap.size + 1) #[.string x.nm, .int .i64 x.ve, .bool x.gn, .int .i64 x.im, .int .i64 x.wa, .int .i64 x.dn, .int .i64 x.ov, .int .i64 x.nx, .int .i64 x.pr, .int .i64 x.ls, .int .i64 x.ms, .int .i64 x.ld, .int .i64 x.cl] ∧ NumsZ wr (w.heap.size + 3) w1.heap.size a9 P ∧ IRow wr (w.heap.size + 1 + 1) mm (someP B x which (P.take j)) ∧ (∀ r, mm.ownBlock = some r → r = w.heap.size + 1 + 1 ∨ w1.heap.size ≤ r)) (fun _ i _ => P.length - (intOf i).toNat)
  case atStart => exact ⟨0, rfl, Nat.zero_le _, HB.out, Nat.le_refl _, F1.out, FS.out, HN.out, OW.out, fun r hr => by cases hr; exact Or.inl rfl⟩
  case round =>
    obtain ⟨j, rfl, hj, hb, hzr, hf, hs, hn, ho, hob⟩ := hrel
    replace HB := hide hb
    replace F1 := hide hf
    replace FS := hide hs
    replace HN := hide hn
    replace OW := hide ho
    have HOB := hide hob
    clear hb hf hs hn ho hob
    by_cases hlt : j < P.length
    · obtain ⟨g, rfl, hgb, hgz, hgc⟩ := HN.out j hlt
      have hcj : P[j] < B.cs.length := PM.out _ (List.getElem_mem hlt)
      obtain ⟨cb, co, rfl, hcb, -, hcc⟩ := HK.out.cps.full' (by omega)
      obtain ⟨c0, c1, c2, c3, c4, c5, c6⟩ := (hcc P[j] hcj).2.below HB.out hcb
      have HST := hide (someP_step (x := x) (which := which) hlt hcj)
      have hpl : (someP B x which (P.take j)).length ≤ 200 := Nat.le_trans (someP_len _ _ _ _) (by simp; omega)
      clear hcc
      obtain ⟨cc, hcq⟩ : ∃ c, c = B.cs[P[j]] := ⟨_, rfl⟩
      rw [← hcq] at c0 c1 c2 c3 c4 c5 c6 HST
      clear hcq
      obtain ⟨q, hq⟩ : ∃ q, q = P[j] := ⟨_, rfl⟩
      rw [← hq] at c0 c1 c2 c3 c4 c5 c6 hgc hcj HST
      have HQ := hide hq
      clear hq
      have hgr : g < wr.heap.size := by omega
      have hbw := F1.out.lt
      have p2 := F1.out.cell 2
      simp at p2
      have p2a : ∀ o, (wr.alloc o).cell? ⟨w.heap.size, 2, none⟩ = _ := fun o => (cell_alloc_lt _ _ _ _ hbw).trans p2
      have gca : ∀ o, (wr.alloc o).cell? ⟨g, j, none⟩ = _ := fun o => (cell_alloc_lt _ _ _ _ hgr).trans hgc
      have hcz : cb < wr.heap.size := Nat.lt_of_lt_of_le hcb HB.out.size
      have c0a : ∀ o, (wr.alloc o).cell? _ = _ := fun o => (cell_alloc_lt _ _ _ _ hcz).trans c0
      have c1a : ∀ o, (wr.alloc o).cell? _ = _ := fun o => (cell_alloc_lt _ _ _ _ hcz).trans c1
      have c2a : ∀ o, (wr.alloc o).cell? _ = _ := fun o => (cell_alloc_lt _ _ _ _ hcz).trans c2
      have c3a : ∀ o, (wr.alloc o).cell? _ = _ := fun o => (cell_alloc_lt _ _ _ _ hcz).trans c3
      have c4a : ∀ o, (wr.alloc o).cell? _ = _ := fun o => (cell_alloc_lt _ _ _ _ hcz).trans c4
      have c5a : ∀ o, (wr.alloc o).cell? _ = _ := fun o => (cell_alloc_lt _ _ _ _ hcz).trans c5
      have c6a : ∀ o, (wr.alloc o).cell? _ = _ := fun o => (cell_alloc_lt _ _ _ _ hcz).trans c6
      have j0 : (0 : Int) ≤ (j : Int) := by omega
      have j1' : (j : Int) < (P.length : Int) := by omega
      have g0 : (0 : Int) ≤ (q : Int) := by omega
      have g1' : (q : Int) < (B.cs.length : Int) := by omega
      go_wp2_with fail
      go_cut [10] from 22 to 29 (fun v wc => v = .pointer (some ⟨wr.heap.size, 0, none⟩) ∧ Below wr.heap.size wr wc ∧ Box wc wr.heap.size #[.string cc.se, .int .i64 cc.nu, .int .i64 cc.ve, .int .i64 cc.im, .int .i64 cc.st, .bool cc.en, .string cc.be])
      case first =>
        go_region
        all_goals go_wp2
        all_goals go_meet
        all_goals exact ⟨rfl, ((one_al _ _).drew), (Box.new _ _ _ _ rfl).drew⟩
      case rest =>
      revert wc
      intro w7 hcut
      obtain ⟨rfl, hbc, hcb2⟩ := hcut
      have HBc := hide (bt HB.out hbc)
      have Fc := hide (F1.out.on hbc)
      have FSc := hide (FS.out.on hbc)
      have FCc := hide hcb2
      have HNc := hide (HN.out.kept (fun g _ hg => hbc.block g (by omega)))
      have OWc := hide (OW.out.below hbc)
      have hzc := hbc.size
      clear hbc hcb2 p2 p2a gca c0 c1 c2 c3 c4 c5 c6 c0a c1a c2a c3a c4a c5a c6a HB F1 FS HN OW hgc
      have k3 := FCc.out.cell 3
      have k4 := FCc.out.cell 4
      have s3 := FSc.out.cell 3
      simp at k3 k4 s3
      go_step
      go_step
      go_cut [56] from 30 to 56 (fun v wd => v = .bool (someQ B x which cc) ∧ Below w7.heap.size w7 wd)
      case first =>
        rcases HWH.out with rfl | rfl | rfl
        · have HE : Hid (someQ B x 2 cc = (cc.im != x.im)) := rfl
          cases him : (cc.im != x.im) with
          | true =>
            go_wp2
            go_meet
            exact ⟨by rw [HE.out, him], Below.refl _ _⟩
          | false =>
            go_wp2
            go_meet
            exact ⟨by rw [HE.out, him], Below.refl _ _⟩
        · have HE : Hid (someQ B x 6 cc = drB B cc) := rfl
          have pb := Fc.out.cell
          have kc := FCc.out.cell
          go_wp2_with fail
          refine (l16Drains_any lo _ _ _ B cc _ (HK.out.below HBc.out)).mono ?_
          rintro e w8 ⟨rfl, hb8⟩
          clear pb kc
          have HB8 := hide hb8
          clear hb8
          cases hdr : drB B cc with
          | true =>
            go_wp2
            go_meet
            exact ⟨by rw [HE.out, hdr], HB8.out⟩
          | false =>
            go_wp2
            go_meet
            exact ⟨by rw [HE.out, hdr], HB8.out⟩
        · have HE : Hid (someQ B x 3 cc = (cc.st == 4)) := rfl
          cases hst : (cc.st == 4) with
          | true =>
            go_wp2
            go_meet
            exact ⟨by rw [HE.out, hst], Below.refl _ _⟩
          | false =>
            go_wp2
            go_meet
            exact ⟨by rw [HE.out, hst], Below.refl _ _⟩
      case rest =>
      clear k3 k4 s3
      revert wc
      intro wd hcut
      obtain ⟨rfl, hbd⟩ := hcut
      have HBd := hide (bt HBc.out hbd)
      have Fd := hide (Fc.out.on hbd)
      have FSd := hide (FSc.out.on hbd)
      have HNd := hide (HNc.out.kept (fun g _ hg => hbd.block g (by omega)))
      have OWd := hide (OWc.out.below hbd)
      have hzd := hbd.size
      clear hbd HBc Fc FSc FCc HNc OWc
      cases hm : someQ B x which cc with
      | false =>
        have HNN : Hid (someP B x which (P.take (j + 1)) = someP B x which (P.take j)) := by unfold Hid; rw [HST.out, hm]; simp
        go_wp2
        go_roundw
        case rel => exact ⟨j + 1, by go_num, by omega, HBd.out, by omega, Fd.out, FSd.out, HNd.out, by rw [HNN.out]; exact OWd.out, HOB.out⟩
        case measure => simp [intOf]; omega
      | true =>
        have HNN : Hid (someP B x which (P.take (j + 1)) = someP B x which (P.take j) ++ [q]) := by unfold Hid; rw [HST.out, hm]; simp
        obtain ⟨g', hge, -, -, hgd⟩ := HNd.out j hlt
        cases hge
        have hgq : wd.cell? ⟨g, j, none⟩ = some (.int .i64 (q : Int)) := by
          rw [HQ.out]
          exact hgd
        clear hgd
        go_wp2_with (at_builtin; refine wpList_append_own_at _ rfl (.tmp 57) (.tmp 62) 85 rfl (w.heap.size + 1 + 1) 3 i1 (.int .i64 0) 1 8 Tryz.underlying85 HI1.out.1 HI1.out.2.1 HI1.out.2.2.1 HI1.out.2.2.2 rfl (by decide) _ _ (intV (someP B x which (P.take j))) rfl (ownsB_on OWd.out (one_al _ _)) ⟨wd.heap.size, 0, none⟩ 1 1 [.int .i64 (q : Int)] rfl rfl (cells_at (Box.new _ _ _ _ rfl) rfl _ rfl) (by intro u hu; simp at hu; subst hu; rfl) (by unfold maxLen; omega) (by omega) (by simp; omega) ?_; intro v' w4 hown4 hgrow4 hnil4 hat4)
        have hb4 : Below (w.heap.size + 1 + 1) wd w4 := ((one_al wd _).mono (by omega)).trans (ownsB_grown (ownsB_on OWd.out (one_al _ _)) hgrow4 (by simp; omega))
        have HO4 : Hid (IRow w4 (w.heap.size + 1 + 1) v' (someP B x which (P.take (j + 1)))) := by
          unfold Hid IRow
          rw [HNN.out, intV_app, List.length_append]
          exact hown4
        have hx4 := hgrow4.size
        rw [World.size_alloc] at hx4
        have HN4 : Hid (NumsZ w4 (w.heap.size + 3) w1.heap.size (some ⟨g, 0, none⟩) P) := HNd.out.kept (fun r h1 h2 => (hgrow4.block r (by simp; omega) (fun e => by have := HOB.out r e.symm; omega)).trans ((one_al wd _).block r (by omega)))
        have HOB4 : Hid (∀ r, v'.ownBlock = some r → r = w.heap.size + 1 + 1 ∨ w1.heap.size ≤ r) := fun r hr => by
          rcases hat4 with e | e
          · exact HOB.out r (e.symm.trans hr)
          · rw [hr] at e
            have := Option.some.inj e
            simp at this
            exact Or.inr (by omega)
        go_roundw
        case rel => exact ⟨j + 1, by go_num, by omega, HBd.out.trans (hb4.mono (by omega)), by omega, Fd.out.below hb4 (by omega), FSd.out.below hb4 (by omega), HN4.out, HO4.out, HOB4.out⟩
        case measure => simp [intOf]; omega
    · have hje : j = P.length := by omega
      subst hje
      rw [List.take_length] at OW
      go_wp2
      go_ret
      exact ⟨_, rfl, HB.out, by rw [HPE.out]; exact owns_low2 (base := w.heap.size + 1 + 1) (base' := w.heap.size) OW.out (by omega)⟩
end Go.Proofs.YtpdlcccnlciecaaGreat
