import Derived.Test.YtjkkbkdpoebfaaaGreatV43
namespace Go.Proofs.YtjkkbkdpoebfaaaGreat
open Go.RowKit Go.Deep

theorem OwnS.touch {base lo hi : Nat} {W W' : World} {v : Value} {R : List ByteArray} (h : OwnS base W v R) (ht : Touch lo hi W W') (hh : hi ≤ base) : OwnS base W' v R := by
  refine ⟨⟨h.row.1, ?_⟩, h.sz⟩
  rcases h.row.2 with hv | ⟨g, cap, cur, hv, h1, h2, h3⟩
  · exact Or.inl hv
  · have hg : g < W.heap.size := by
      rcases Nat.lt_or_ge g W.heap.size with h | h
      · exact h
      · rw [Array.getElem?_eq_none h] at h2; cases h2
    exact Or.inr ⟨g, cap, cur, hv, h1, by rw [ht.block g hg (Or.inr (by omega))]; exact h2, h3⟩
theorem MdsAt.sizes {lo : Nat} {w : World} {v : Value} {Ms : List Md} (h : MdsAt lo w v Ms) : ∀ m ∈ Ms, MdSize m := by
  intro m hm
  obtain ⟨i, hi, rfl⟩ := List.getElem_of_mem hm
  rcases h with ⟨_, _, _, h⟩ | ⟨b, off, cap, h1, h2, h3, h4, h5, h6, h7⟩
  · subst h; simp at hi
  · exact (h7 i hi).1
theorem StrsAt.sizes {w : World} {v : Value} {L : List ByteArray} (h : StrsAt w v L) : ∀ s ∈ L, s.size ≤ maxLen := by
  rcases h with ⟨_, _, _, h⟩ | ⟨b, off, cap, h1, h2, h3, h4, h5, h6⟩
  · subst h; intro s hs; simp at hs
  · exact h6
theorem decM_size {Fs : List Fd} {kind : ByteArray} {Ms : List Md} {V : List ByteArray} {f v : ByteArray} (hm : ∀ m ∈ Ms, MdSize m) (hv : ∀ s ∈ V, s.size ≤ maxLen) (h : decM Fs kind Ms V f = some v) : v.size ≤ maxLen := by
  unfold decM at h
  obtain ⟨m, hf, rfl⟩ := Option.map_eq_some_iff.1 h
  have hmem := List.mem_of_find?_eq_some hf
  unfold givenV
  by_cases he : m.fr.toList.isEmpty = true
  · rw [if_pos he]; exact (hm m hmem).s4
  · rw [if_neg he]
    unfold valAt
    by_cases hp : plOf Fs m.fr < V.length
    · rw [List.getElem?_eq_getElem hp]; exact hv _ (List.getElem_mem hp)
    · rw [List.getElem?_eq_none (by omega)]; exact Nat.zero_le _
theorem named_of {Ss : List Sh} {Ms : List Md} {k0 : ByteArray} {x : Sh} (h : mendsB Ss Ms = true) (hx : shOf Ss k0 = some x) : Named x.fields x.kind Ms := fun _ hm hk => (mend_there h hx hm hk).2

section
variable (kind nm team : ByteArray) (vv hv sv mv fv : Value) (en : Bool) (ver : Int) (V Ho : List ByteArray) (Ss : List Sh) (Ms : List Md) (x : Sh) (k0 : ByteArray) (w : World) (lo lm : Nat)
set_option maxRecDepth 20000 in
set_option maxHeartbeats 8000000 in
theorem mendObj_any (hV : StrsAt w vv V) (hH : StrsAt w hv Ho) (hF : FdsAt lo w fv x.fields) (hM : MdsAt lm w mv Ms) (hmb : mendsB Ss Ms = true) (hx : shOf Ss k0 = some x) (hl : x.fields.length = V.length) (n2 : Ho.length ≤ 1048576) :
    Calls Tryz.prog 25 #[.agg #[.string x.kind, fv], mv, .agg #[.string kind, .string nm, .string team, vv, .bool en, hv, .int .i64 ver]] w
      fun e w' => ∃ v' h' F, e = .returned (.agg #[.string kind, .string nm, .string team, v', .bool en, h', .int .i64 ver]) ∧ Below w.heap.size w w' ∧ ObjOwn w.heap.size w' v' h' F Ho ∧ FixM x Ms V F := by
  have HV := hide hV
  have HH := hide hH
  have HF := hide hF
  have HM := hide hM
  have HMB := hide hmb
  have HX := hide hx
  have hfb : fieldsB Ss x.fields = true := shapes_fields (mendsB_shapes hmb) (shOf_mem hx).1
  have HFB := hide hfb
  have h6 : x.fields.length ≤ 6 := fields_six hfb
  have n1 : V.length ≤ 6 := by omega
  have h12 : Ms.length ≤ 12 := mendsB_twelve hmb
  have HROW : Hid (rowB (namesF x.fields) (readsOf x.kind Ms) = true) := mendsB_row hmb (shOf_mem hx).1
  have HNA := hide (named_of hmb hx)
  obtain ⟨a, cap, rfl⟩ := hV.form'
  obtain ⟨a', cap', rfl⟩ := hH.form'
  obtain ⟨a1, cap1, rfl⟩ := hF.form
  obtain ⟨ma, mcap, rfl⟩ := hM.form
  have HL := hide hl
  clear hV hH hF hM hl hmb hx hfb
  go_enter Tryz.func25, Tryz.ntmps25
  go_wp2_with fail
  generalize hWa : w.alloc _ = Wa
  have hza : Wa.heap.size = w.heap.size + 1 := by rw [← hWa]; simp
  have HBa : Hid (Below w.heap.size w Wa) := by rw [← hWa]; exact one_al _ _
  have FS : Hid (Box Wa w.heap.size #[.string x.kind, .slice a1 x.fields.length cap1]) := by rw [← hWa]; exact Box.new _ _ _ _ rfl
  clear hWa
  generalize hWb : Wa.alloc _ = Wb
  have hzb : Wb.heap.size = w.heap.size + 1 + 1 := by rw [← hWb]; simp [hza]
  have hbb : Below Wa.heap.size Wa Wb := by rw [← hWb]; exact one_al _ _
  have HBb : Hid (Below w.heap.size w Wb) := HBa.out.trans (hbb.mono (by omega))
  have FS := hide (FS.out.on hbb)
  clear hWb hbb HBa
  generalize hWc : Wb.alloc _ = Wc
  have hzc : Wc.heap.size = w.heap.size + 3 := by rw [← hWc]; simp [hzb]
  have hbc : Below Wb.heap.size Wb Wc := by rw [← hWc]; exact one_al _ _
  have HBc : Hid (Below w.heap.size w Wc) := HBb.out.trans (hbc.mono (by omega))
  have FS := hide (FS.out.on hbc)
  have FR : Hid (Box Wc (w.heap.size + 1 + 1) #[.string ⟨#[]⟩, .string ⟨#[]⟩, .string ⟨#[]⟩, .slice none 0 0, .bool false, .slice none 0 0, .int .i64 0]) := by rw [← hWc]; exact Box.new _ _ _ _ hzb
  clear hWc hbc HBb hza hzb
  refine (copyObj_any _ _ _ _ _ _ _ V Ho _ (HV.out.below HBc.out) (HH.out.below HBc.out) (by omega) n2).mono ?_
  rintro e w1 ⟨v1, h1, rfl, hb1, mid, hlo, hmid, hs1, hs2⟩
  obtain ⟨a2, cap2, rfl⟩ := hs1.form
  obtain ⟨a3, cap3, rfl⟩ := hs2.form
  have hz1 := hb1.size
  have FS := hide (FS.out.on hb1)
  have FR := hide (FR.out.on hb1)
  have HB1 : Hid (Below w.heap.size w w1) := HBc.out.trans (hb1.mono HBc.out.size)
  have HS1 : Hid (StrsOwn (w.heap.size + 3) mid w1 (.slice a2 V.length cap2) V) := by rw [← hzc]; exact hs1
  have HS2 := hide hs2
  have hlo' : w.heap.size + 3 ≤ mid := by omega
  clear hb1 hs1 hs2 HBc hlo
  have g1 := FS.out.cell
  have gl := FS.out.lt
  go_wp2_with fail
  clear g1 gl
  generalize hWd : w1.alloc _ = Wd
  have hzd : Wd.heap.size = w1.heap.size + 1 := by rw [← hWd]; simp
  have hbd : Below w1.heap.size w1 Wd := by rw [← hWd]; exact one_al _ _
  have HBd : Hid (Below w.heap.size w Wd) := HB1.out.trans (hbd.mono HB1.out.size)
  have FS := hide (FS.out.on hbd)
  have FR := hide (FR.out.on hbd)
  have FO : Hid (Box Wd w1.heap.size #[.string kind, .string nm, .string team, .slice a2 V.length cap2, .bool en, .slice a3 Ho.length cap3, .int .i64 ver]) := by rw [← hWd]; exact Box.new _ _ _ _ rfl
  have HS1 := hide (HS1.out.below hbd)
  have HS2 := hide (HS2.out.below hbd)
  clear hWd hbd HB1
  refine (fieldRow_any lo lm _ _ x Ms w _ HF.out HBd.out (HM.out.below HBd.out) (by omega) (by omega)).mono ?_
  rintro e w2 ⟨hb2, hgr⟩
  have hz2 := hb2.size
  have HB2 : Hid (Below w.heap.size w w2) := HBd.out.trans (hb2.mono HBd.out.size)
  have FS := hide (FS.out.on hb2)
  have FR := hide (FR.out.on hb2)
  have FO := hide (FO.out.on hb2)
  have HS1 := hide (HS1.out.below hb2)
  have HS2 := hide (HS2.out.below hb2)
  clear hb2 HBd
  rcases hgr with ⟨rv, R, rfl, ho, hg, hlen⟩ | ⟨hno, _⟩
  · have HO := hide ho
    have HG := hide hg
    obtain ⟨ra, rcap, rfl⟩ := ho.form
    have HFIX : Hid (FixM x Ms V (mendV (plOf x.fields) (decM x.fields x.kind Ms) R V)) := mend_row hg hlen HL.out
    have hRl : R.length ≤ 6 := Nat.le_trans (good_len hg) h6
    clear ho hg hlen
    go_wp2
    go_loopw [24] (fun i wr => ∃ k : Nat, i = .int .i64 k ∧ k ≤ R.length ∧ StrsOwn (w.heap.size + 3) mid wr (.slice a2 V.length cap2) (mendV (plOf x.fields) (decM x.fields x.kind Ms) (R.take k) V) ∧ Touch (w.heap.size + 3) mid w2 wr) (fun i _ => R.length - (intOf i).toNat)
    case atStart => exact ⟨0, rfl, by omega, HS1.out, Touch.refl _ _ _⟩
    case round =>
      obtain ⟨k, rfl, hk, hso, ht⟩ := hrel
      have HSO := hide hso
      have HT := hide ht
      have hzr := ht.size
      have HBr : Hid (Below w.heap.size w wr) := HB2.out.trans ((ht.under (by omega)).mono (by omega))
      have FSr := hide (FS.out.touch ht (by omega))
      have FRr := hide (FR.out.touch ht (by omega))
      have FOr := hide (FO.out.touch ht (by omega))
      have HOr := hide (HO.out.touch ht (by omega))
      clear hso ht HS1
      by_cases hlt : k < R.length
      · obtain ⟨rb, ro, rfl, hrb, hrc⟩ := HOr.out.strs.full' (by omega)
        have ck := hrc k hlt
        clear hrc
        have g1 := FSr.out.cell
        have gl := FSr.out.lt
        have g2 := FOr.out.cell
        have gl2 := FOr.out.lt
        have HLv : Hid ((mendV (plOf x.fields) (decM x.fields x.kind Ms) (R.take k) V).length = V.length) := mendV_len _ _ _ _
        have HNEXT := hide (mendV_take (plOf x.fields) (decM x.fields x.kind Ms) hlt V)
        have HIN : Hid (R[k] ∈ namesF x.fields) := HG.out.sub (List.getElem_mem hlt)
        generalize hcur : mendV (plOf x.fields) (decM x.fields x.kind Ms) (R.take k) V = L at *
        go_wp2_with fail
        refine (decided_any lo lm _ R[k] _ _ _ Ss x.fields Ms L w _ HF.out HBr.out (HM.out.below HBr.out) HSO.out.at HFB.out (HL.out.trans HLv.out.symm) HNA.out h12).mono ?_
        rintro e w3 ⟨hb3, hdr⟩
        have hz3 := hb3.size
        have FS3 := hide (FSr.out.on hb3)
        have FO3 := hide (FOr.out.on hb3)
        have HS3 := hide (HSO.out.below hb3)
        have HT3 : Hid (Touch (w.heap.size + 3) mid w2 w3) := HT.out.trans (Touch.below hb3)
        have HB3 : Hid (Below w.heap.size w w3) := HBr.out.trans (hb3.mono HBr.out.size)
        clear hb3 g1 gl g2 gl2 ck FSr FRr FOr HOr
        rcases hdr with ⟨nv, hd, rfl⟩ | ⟨hd, rfl⟩
        · have hp : plOf x.fields R[k] < x.fields.length := plOf_lt.2 HIN.out
          have hpL : plOf x.fields R[k] < L.length := by have := HLv.out; have := HL.out; omega
          have hpV : plOf x.fields R[k] < V.length := by have := HL.out; omega
          have HPI : Hid (placeI x.fields R[k] = plOf x.fields R[k]) := placeI_lt hp
          have HNX : Hid (mendV (plOf x.fields) (decM x.fields x.kind Ms) (R.take (k + 1)) V = L.set (plOf x.fields R[k]) nv) := by unfold Hid; rw [HNEXT.out]; exact setp_some hd
          have HNS : Hid (nv.size ≤ maxLen) := decM_size HM.out.sizes HS3.out.at.sizes hd
          have hLl : L.length ≤ 6 := by have := HLv.out; omega
          clear hd HNEXT
          obtain ⟨vb, vo, rfl, hVL, hvb, hv1, hv2, hvc, hvf⟩ := HS3.out.full (by omega)
          clear hVL
          have ck3 := hvc _ hpL
          have fz3 := hvf (plOf x.fields R[k])
          have g1 := FS3.out.cell
          have gl := FS3.out.lt
          have g2 := FO3.out.cell
          have gl2 := FO3.out.lt
          clear hvc hvf
          generalize hpp : plOf x.fields R[k] = p at *
          go_wp2
          go_region_with (go_at_call 45
                          refine (placeOf_any lo _ _ x.fields R[k] _ (HF.out.below (HB3.out.drew))).mono ?_
                          rintro e w4 ⟨rfl, hb4⟩
                          rw [HPI.out]
                          have hb4' := drew_on hb4
                          have g3 : ∀ i, w4.cell? ⟨w1.heap.size, i, none⟩ = (#[.string kind, .string nm, .string team, .slice (some ⟨vb, vo, none⟩) V.length cap2, .bool en, .slice a3 Ho.length cap3, .int .i64 ver] : Array Value)[i]? := (FO3.out.on hb4').cell
                          have ck4 : w4.cell? ⟨vb, vo + p, none⟩ = some (.string L[p]) := (hb4'.cell (p := ⟨vb, vo + p, none⟩) hvb).trans ck3
                          have fz4 : w4.frozen? ⟨vb, vo + p, none⟩ = false := (hb4'.frozen (p := ⟨vb, vo + p, none⟩) hvb).trans fz3
                          have HS4 := hide (HS3.out.below hb4')
                          have HT4 : Hid (Touch (w.heap.size + 3) mid w2 w4) := HT3.out.trans (Touch.below hb4')
                          clear hb4 hb4')
          all_goals
            go_wp2
            go_roundw
            case rel => exact ⟨k + 1, by go_num, by omega, by rw [HNX.out]; exact HS4.out.put hpL HNS.out, HT4.out.trans (Touch.setCell _ _ _ _ _ ⟨hv1, hv2⟩)⟩
            case measure => simp [intOf]; omega
        · have HNX : Hid (mendV (plOf x.fields) (decM x.fields x.kind Ms) (R.take (k + 1)) V = L) := by unfold Hid; rw [HNEXT.out]; exact setp_none hd
          clear hd
          go_wp2
          go_roundw
          case rel => exact ⟨k + 1, by go_num, by omega, by rw [HNX.out]; exact HS3.out, HT3.out⟩
          case measure => simp [intOf]; omega
      · have e : k = R.length := by omega
        subst e
        have HE : Hid (R.take R.length = R) := List.take_length
        have g2 := FOr.out.cell
        have gl2 := FOr.out.lt
        have HS2r := hide (HS2.out.touch HT.out (Or.inr (Nat.le_refl _)))
        have rr := FRr.out.cell
        have rf := FRr.out.free
        have rl := FRr.out.lt
        have r0 : wr.cell? ⟨w.heap.size + 1 + 1, 0, none⟩ = some (.string ⟨#[]⟩) := rr 0
        have r1 : wr.cell? ⟨w.heap.size + 1 + 1, 1, none⟩ = some (.string ⟨#[]⟩) := rr 1
        have r2 : wr.cell? ⟨w.heap.size + 1 + 1, 2, none⟩ = some (.string ⟨#[]⟩) := rr 2
        have r3 : wr.cell? ⟨w.heap.size + 1 + 1, 3, none⟩ = some (.slice none 0 0) := rr 3
        have r4 : wr.cell? ⟨w.heap.size + 1 + 1, 4, none⟩ = some (.bool false) := rr 4
        have r5 : wr.cell? ⟨w.heap.size + 1 + 1, 5, none⟩ = some (.slice none 0 0) := rr 5
        have r6 : wr.cell? ⟨w.heap.size + 1 + 1, 6, none⟩ = some (.int .i64 0) := rr 6
        clear rr
        go_wp2
        refine bodyPost_ret (v := .agg #[.string kind, .string nm, .string team, .slice a2 V.length cap2, .bool en, .slice a3 Ho.length cap3, .int .i64 ver]) (by simp [results, Tryz.results25, go_sem, r0, r1, r2, r3, r4, r5, r6]) rfl ⟨_, _, _, rfl, ?_, ⟨mid, ?_, ?_, ?_, ?_⟩, by rw [← HE.out] at HFIX; exact HFIX.out⟩
        · repeat (refine Below.setCell ?_ (by simp only []; omega) _)
          exact HBr.out
        · omega
        · simp only [World.setCell, Array.size_modify]; omega
        · refine StrsOwn.wide (lo := w.heap.size + 3) (hi := mid) ?_ (by omega) (Nat.le_refl _)
          repeat (refine StrsOwn.setCell ?_ (by simp only []; omega) _)
          exact HSO.out
        · refine StrsOwn.wide (lo := mid) (hi := w1.heap.size) ?_ (Nat.le_refl _) (by simp only [World.setCell, Array.size_modify]; omega)
          repeat (refine StrsOwn.setCell ?_ (by simp only []; omega) _)
          exact HS2r.out
  · rw [HROW.out] at hno; cases hno
end
end Go.Proofs.YtjkkbkdpoebfaaaGreat
