import Derived.Test.YtjkkbkdpoebfaaaGreatV35
import Derived.Test.YtjkkbkdpoebfaaaGreatV37
import Derived.Test.YtjkkbkdpoebfaaaGreatV38
import Derived.Test.YtjkkbkdpoebfaaaGreatV46
namespace Go.Proofs.YtjkkbkdpoebfaaaGreat
open Go.RowKit Go.Deep

set_option maxRecDepth 20000 in
set_option maxHeartbeats 8000000 in
theorem l3Any_any (ρ p : Nat) (bs : List UInt8) (w : World) (h : Rd w ρ p bs) (hp : p ≤ 500000000) :
    Calls Tryz.prog 30 #[.pointer (some ⟨ρ, 0, none⟩)] w fun e w' => ∃ (vs vm : Value) (Ls : List SX) (Lm : List Md), e = .returned (.tuple #[vs, vm]) ∧ ShsG w.heap.size vs Ls w' ∧ Ls.length ≤ 10 ∧ MdR w.heap.size vm Lm w' ∧ Lm.length ≤ 40 ∧ (∃ q, p ≤ q ∧ q ≤ p + 3000 ∧ Rd w' ρ q bs) ∧ Tch ρ w w' := by
  have HR := hide h
  have hlt := h.lt
  clear h
  go_enter Tryz.func30, Tryz.ntmps30
  go_wp2_with fail
  refine (l11Law_any w).mono ?_
  rintro e w1 ⟨vs, tb, b, Ls, Lm, rfl, hsg, hls, hmd, hlm, hb⟩
  have HSG := hide hsg
  have HMD := hide hmd
  have HB := hide hb
  have HLS := hide hls
  have HLM := hide hlm
  replace HR := hide (HR.out.below hb)
  obtain ⟨sa, sc, rfl⟩ := ZRw.form hsg
  clear hsg hmd hb hls hlm
  go_upto_region 2 with fail
  generalize hW2 : w1.alloc _ = w2
  have hba : Below w1.heap.size w1 w2 := by rw [← hW2]; exact one_al _ _
  have BX : Hid (Box w2 w1.heap.size #[.slice sa Ls.length sc, .slice (some ⟨b, 0, none⟩) 3 3, .slice (some ⟨tb, 0, none⟩) 3 3]) := by unfold Hid; rw [← hW2]; exact Box.new _ _ _ _ rfl
  replace HSG := hide (ZRw.below sh_keeps HSG.out hba)
  replace HMD := hide (HMD.out.below hba)
  replace HR := hide (HR.out.below hba)
  replace HB := hide (bt HB.out hba)
  clear hW2 hba
  have c : ∀ i, w2.cell? ⟨w1.heap.size, i, none⟩ = #[.slice sa Ls.length sc, .slice (some ⟨b, 0, none⟩) 3 3, .slice (some ⟨tb, 0, none⟩) 3 3][i]? := BX.out.cell
  have cl := BX.out.lt
  go_quiet (fail)
  clear c cl BX
  have hd : Below w2.heap.size w2 (w2.drewN nq) := below_drewN (Below.refl _ _) _
  replace HSG := hide (ZRw.below sh_keeps HSG.out hd)
  replace HMD := hide (HMD.out.below hd)
  replace HR := hide (HR.out.below hd)
  have HT : Hid (Tch ρ w (w2.drewN nq)) := (Tch.below HB.out).trans (Tch.below hd)
  clear hd HB
  generalize w2.drewN nq = w3 at *
  go_wp2_with fail
  refine (pick_any ρ p bs 3 w3 HR.out (by omega) (by decide) (by decide)).mono ?_
  rintro e w4 ⟨x, rfl, hx0, hx1, hr, ht⟩
  replace HSG := hide (ZRw.tch sh_keeps HSG.out ht hlt)
  replace HMD := hide (HMD.out.tch ht hlt)
  replace HR := hide hr
  replace HT := hide (HT.out.trans ht)
  clear hr ht
  go_upto_if 14 with fail
  go_cut [5, 6] (fun v5 v6 wc => ∃ (sa : Option Addr) (sc b c q : Nat) (Ls : List SX) (Lm : List Md), v5 = .slice sa Ls.length sc ∧ v6 = .slice (some ⟨b, 0, none⟩) Lm.length c ∧ ShsG w.heap.size v5 Ls wc ∧ Ls.length ≤ 3 ∧ MdR w.heap.size v6 Lm wc ∧ Lm.length ≤ 6 ∧ Rd wc ρ q bs ∧ p ≤ q ∧ q ≤ p + 2100 ∧ Tch ρ w wc)
  case first =>
    by_cases hx : (0 : Int) < x
    · go_wp2_with fail
      refine (l1DrawShapes_any ρ (p + 1) bs w4 HR.out (by omega)).mono ?_
      rintro e w5 ⟨v5, L5, rfl, hsg, hl1, hl3, ⟨q5, hq5a, hq5b, hr⟩, ht⟩
      obtain ⟨a5, c5, rfl⟩ := ZRw.form hsg
      have hz4 : ρ < w4.heap.size := HR.out.lt
      have HS5 := hide hsg
      have HR5 := hide hr
      have HT5 := hide (HT.out.trans ht)
      have hzt := HT.out.size
      clear hsg hr ht
      go_wp2_with fail
      refine (l3DrawMends_any w4.heap.size ρ q5 bs _ L5 w5 HR5.out (by omega) HS5.out hz4 (by omega)).mono ?_
      rintro e w6 ⟨b6, c6, M6, rfl, hmd, hm6, ⟨q6, hq6a, hq6b, hr⟩, ht⟩
      have hz5 := HT5.out.size
      go_wp2
      go_meet
      exact ⟨a5, c5, b6, c6, q6, L5, M6, rfl, rfl, (ZRw.tch sh_keeps HS5.out ht hz4).mono hzt, hl3, hmd.mono hz5, hm6, hr, by omega, by omega, HT5.out.trans ht⟩
    · go_wp2
      go_meet
      exact ⟨sa, sc, b, 3, p + 1, Ls, Lm, rfl, by rw [HLM.out], HSG.out, by have := HLS.out; omega, HMD.out, by have := HLM.out; omega, HR.out, by omega, by omega, HT.out⟩
  case rest =>
  obtain ⟨sa, sc, b, c, q, Ls, Lm, rfl, rfl, hsg, hls, hmd, hlm, hr, hqa, hqb, ht⟩ := hcut
  replace HSG := hide hsg
  replace HMD := hide hmd
  replace HR := hide hr
  replace HT := hide ht
  clear hsg hmd hr ht
  go_wp2_with fail
  refine (pick_any ρ q bs 16 wc HR.out (by omega) (by decide) (by decide)).mono ?_
  rintro e w7 ⟨y, rfl, hy0, hy1, hr, ht⟩
  replace HSG := hide (ZRw.tch sh_keeps HSG.out ht hlt)
  replace HMD := hide (HMD.out.tch ht hlt)
  replace HR := hide hr
  replace HT := hide (HT.out.trans ht)
  clear hr ht
  have hz7 := HT.out.size
  by_cases h0 : y = 0
  · subst h0
    go_wp2_with fail
    refine (l1SpoilShapes_any w.heap.size ρ (q + 1) bs _ Ls w7 HR.out (by omega) HSG.out hlt (by omega) hz7).mono ?_
    rintro e w8 ⟨v8, L8, rfl, hsg, hl8, ⟨q8, hq8a, hq8b, hr⟩, ht⟩
    obtain ⟨a8, c8, rfl⟩ := ZRw.form hsg
    have HS8 := hide hsg
    have HM8 := hide (HMD.out.tch ht hlt)
    have HR8 := hide hr
    have HT8 := hide (HT.out.trans ht)
    clear hsg hr ht
    go_wp2
    refine bodyPost_ret (v := .tuple #[.slice a8 L8.length c8, .slice (some ⟨b, 0, none⟩) Lm.length c]) (by simp [results, Tryz.results30, go_sem]) rfl ⟨_, _, L8, Lm, rfl, HS8.out, hl8, HM8.out, by omega, ⟨q8, by omega, by omega, HR8.out⟩, HT8.out⟩
  have h0b : (y == 0) = false := by simpa using h0
  by_cases h1 : y = 1
  · subst h1
    go_wp2_with fail
    refine (l3SpoilMends_any w.heap.size ρ (q + 1) bs Lm w7 HR.out (by omega) b 0 c HMD.out hlt (by omega)).mono ?_
    rintro e w8 ⟨v8, L8, rfl, hmd, hl8, ⟨q8, hq8a, hq8b, hr⟩, ht⟩
    obtain ⟨a8, c8, rfl⟩ := hmd.form
    have HS8 := hide (ZRw.tch sh_keeps HSG.out ht hlt)
    have HM8 := hide (hmd.mono hz7)
    have HR8 := hide hr
    have HT8 := hide (HT.out.trans ht)
    clear hmd hr ht
    go_wp2
    refine bodyPost_ret (v := .tuple #[.slice sa Ls.length sc, .slice a8 L8.length c8]) (by simp [results, Tryz.results30, go_sem]) rfl ⟨_, _, Ls, L8, rfl, HS8.out, by omega, HM8.out, hl8, ⟨q8, by omega, by omega, HR8.out⟩, HT8.out⟩
  have h1b : (y == 1) = false := by simpa using h1
  go_wp2
  refine bodyPost_ret (v := .tuple #[.slice sa Ls.length sc, .slice (some ⟨b, 0, none⟩) Lm.length c]) (by simp [results, Tryz.results30, go_sem]) rfl ⟨_, _, Ls, Lm, rfl, HSG.out, by omega, HMD.out, by omega, ⟨q + 1, by omega, by omega, HR.out⟩, HT.out⟩
end Go.Proofs.YtjkkbkdpoebfaaaGreat
namespace Go.Proofs.YtjkkbkdpoebfaaaGreat
open Go.RowKit Go.Deep

/-- with all fields in the opposite order -/
def revSh (x : Sh) : Sh := ⟨x.kind, x.fields.reverse⟩
def roundS (Ss : List Sh) : List Sh := Ss.map revSh
theorem shOf_round (Ss : List Sh) (s : ByteArray) : shOf (roundS Ss) s = (shOf Ss s).map revSh := by
  unfold shOf roundS
  induction Ss with
  | nil => rfl
  | cons a Ss ih =>
    rw [List.map_cons, List.find?_cons, List.find?_cons]
    show (match a.kind.toList == s.toList with | true => some (revSh a) | false => _) = _
    cases a.kind.toList == s.toList with
    | true => rfl
    | false => exact ih
theorem hasK_round (Ss : List Sh) (s : ByteArray) : hasK (roundS Ss) s = hasK Ss s := by unfold hasK; rw [shOf_round]; cases shOf Ss s <;> rfl
theorem restB_round (Ss : List Sh) (f : Fd) : restB (roundS Ss) f = restB Ss f := by unfold restB sound4; rw [hasK_round]
theorem mem_names_rev {Fs : List Fd} {s : ByteArray} : s ∈ namesF Fs.reverse ↔ s ∈ namesF Fs := by unfold namesF; rw [List.map_reverse, List.mem_reverse]
/-- no two fields have one name -/
def Apt (Fs : List Fd) : Prop := ∀ i j (hi : i < Fs.length) (hj : j < Fs.length), Fs[i].nm = Fs[j].nm → i = j
theorem apt_of {Ss : List Sh} {Fs : List Fd} (h : fieldsB Ss Fs = true) : Apt Fs := fun i j hi hj e => by
  have h1 := fields_apart h hi
  have h2 := fields_apart h hj
  rw [e, h2] at h1
  exact h1.symm
theorem Apt.rev {Fs : List Fd} (h : Apt Fs) : Apt Fs.reverse := fun i j hi hj e => by
  rw [List.length_reverse] at hi hj
  rw [List.getElem_reverse, List.getElem_reverse] at e
  have := h _ _ (by omega) (by omega) e
  omega
theorem apt_place {Fs : List Fd} (h : Apt Fs) {k : Nat} (hk : k < Fs.length) : plOf Fs Fs[k].nm = k := by
  have hp : plOf Fs Fs[k].nm < Fs.length := plOf_lt.2 (mem_namesF.2 ⟨k, hk, rfl⟩)
  exact h _ _ hp hk (plOf_nm hp)
theorem place_rev {Fs : List Fd} (h : Apt Fs) {s : ByteArray} (hs : s ∈ namesF Fs) : plOf Fs.reverse s = Fs.length - 1 - plOf Fs s := by
  have hp := plOf_lt.2 hs
  have hk : Fs.length - 1 - plOf Fs s < Fs.reverse.length := by rw [List.length_reverse]; omega
  have e : (Fs.reverse[Fs.length - 1 - plOf Fs s]'hk).nm = s := by
    rw [List.getElem_reverse]
    have e2 : Fs.length - 1 - (Fs.length - 1 - plOf Fs s) = plOf Fs s := by omega
    simp only [e2]
    exact plOf_nm hp
  have := apt_place h.rev hk
  rwa [e] at this
theorem field_rev {Fs : List Fd} (h : Apt Fs) {s : ByteArray} : Fs.reverse[plOf Fs.reverse s]? = Fs[plOf Fs s]? := by
  by_cases hs : s ∈ namesF Fs
  · have hp := plOf_lt.2 hs
    rw [place_rev h hs, List.getElem?_reverse (by omega)]
    congr 1; omega
  · have h1 : ¬ plOf Fs s < Fs.length := fun hc => hs (plOf_lt.1 hc)
    have h2 : ¬ plOf Fs.reverse s < Fs.reverse.length := fun hc => hs (mem_names_rev.1 (plOf_lt.1 hc))
    rw [List.getElem?_eq_none (by omega), List.getElem?_eq_none (by omega)]
theorem mendS_rev {Fs : List Fd} (h : Apt Fs) (m : Md) : mendS Fs.reverse m = mendS Fs m := by
  have hp : ∀ s, plainB Fs.reverse s = plainB Fs s := fun s => by unfold plainB; rw [field_rev h]
  have hf : ∀ s t, fitF Fs.reverse s t = fitF Fs s t := fun s t => by unfold fitF; rw [field_rev h]
  unfold mendS
  rw [hp, hp, hp, hf]
theorem val_rev {Fs : List Fd} (h : Apt Fs) {V : List ByteArray} (hl : Fs.length = V.length) {s : ByteArray} (hs : s ∈ namesF Fs) : V.reverse[plOf Fs.reverse s]? = V[plOf Fs s]? := by
  have hp := plOf_lt.2 hs
  rw [place_rev h hs, List.getElem?_reverse (by omega)]
  congr 1; omega
theorem decM_rev {Fs : List Fd} (h : Apt Fs) {V : List ByteArray} (hl : Fs.length = V.length) {kind : ByteArray} {Ms : List Md} (hn : Named Fs kind Ms) (f : ByteArray) : decM Fs.reverse kind Ms V.reverse f = decM Fs kind Ms V f := by
  have hv : ∀ s, s ∈ namesF Fs → valAt Fs.reverse V.reverse s = valAt Fs V s := fun s hs => by unfold valAt; rw [val_rev h hl hs]
  unfold decM
  refine find_map_congr (fun m hm => ?_) fun m hm hp => ?_
  · cases hf : forB kind f m with
    | false => rfl
    | true =>
      have hk : m.kind = kind := by unfold forB at hf; simp only [Bool.and_eq_true] at hf; exact bytes_eq.1 hf.1
      obtain ⟨h1, h2⟩ := hn m hm hk
      unfold appB
      have e1 : (m.wh.toList.isEmpty || (valAt Fs.reverse V.reverse m.wh).toList == m.is.toList) = (m.wh.toList.isEmpty || (valAt Fs V m.wh).toList == m.is.toList) := by
        rcases h1 with h1 | h1
        · rw [h1]; rfl
        · rw [hv _ h1]
      have e2 : (m.fr.toList.isEmpty || !(valAt Fs.reverse V.reverse m.fr).toList.isEmpty) = (m.fr.toList.isEmpty || !(valAt Fs V m.fr).toList.isEmpty) := by
        rcases h2 with h2 | h2
        · rw [h2]; rfl
        · rw [hv _ h2]
      rw [e1, e2]
  · have hf : forB kind f m = true := by simp only [Bool.and_eq_true] at hp; exact hp.1
    have hk : m.kind = kind := by unfold forB at hf; simp only [Bool.and_eq_true] at hf; exact bytes_eq.1 hf.1
    obtain ⟨_, h2⟩ := hn m hm hk
    unfold givenV
    rcases h2 with h2 | h2
    · rw [if_pos h2, if_pos h2]
    · rw [hv _ h2]
theorem Good.congr {α : Type} {N N' : List α} {rd : α → List α} (h : ∀ x, x ∈ N ↔ x ∈ N') {R : List α} (hg : Good N rd R) : Good N' rd R :=
  fun i hi => ⟨(h _).1 (hg i hi).1, (hg i hi).2⟩
theorem row_rev {Ms : List Md} {x : Sh} (h : shapeRowB Ms x = true) : shapeRowB Ms (revSh x) = true := by
  obtain ⟨R, hg, hl⟩ := rowB_some h
  refine rowB_yes (hg.congr fun s => (mem_names_rev).symm) ?_
  rw [names_len] at *
  show x.fields.reverse.length ≤ _
  rw [List.length_reverse]; exact hl
theorem fields_rev {Ss : List Sh} {Fs : List Fd} (h : fieldsB Ss Fs = true) : fieldsB (roundS Ss) Fs.reverse = true := by
  have ha := apt_of h
  have h6 := fields_six h
  unfold fieldsB
  rw [Bool.and_eq_true, List.all_eq_true]
  refine ⟨decide_eq_true (by rw [List.length_reverse]; exact h6), fun k hk => ?_⟩
  have hk' : k < Fs.reverse.length := List.mem_range.1 hk
  have hk2 : k < Fs.length := by rw [List.length_reverse] at hk'; exact hk'
  rw [fieldAt_of hk', restB_round]
  have hj : Fs.length - 1 - k < Fs.length := by omega
  have hat := h
  unfold fieldsB at hat
  rw [Bool.and_eq_true, List.all_eq_true] at hat
  have h1 := hat.2 _ (List.mem_range.2 hj)
  rw [fieldAt_of hj] at h1
  simp only [Bool.and_eq_true] at h1
  rw [show Fs.reverse[k] = Fs[Fs.length - 1 - k] from List.getElem_reverse _]
  have hd : dupB (Fs.reverse.take k) Fs[Fs.length - 1 - k].nm = false := by
    refine dup_none fun i hi hik => ?_
    rw [bytes_ne]
    intro e
    have e3 : Fs.reverse[k].nm = Fs.reverse[i].nm := by rw [e, List.getElem_reverse]
    have := ha.rev _ _ hk' hi e3
    omega
  rw [h1.1.1, h1.1.2, hd]; rfl
theorem shapes_rev {Ss : List Sh} (h : shapesB Ss = true) : shapesB (roundS Ss) = true := by
  have hlen : (roundS Ss).length = Ss.length := by simp [roundS]
  have hget : ∀ i (hi : i < Ss.length), (roundS Ss)[i]'(by omega) = revSh Ss[i] := fun i hi => by simp [roundS]
  have h0 := h
  unfold shapesB at h0 ⊢
  rw [Bool.and_eq_true, List.all_eq_true] at h0 ⊢
  refine ⟨by rw [hlen]; exact h0.1, fun i hi => ?_⟩
  rw [hlen] at hi
  have hi' := List.mem_range.1 hi
  have hs := h0.2 i hi
  have hfb := fields_rev (shapes_fields h (List.getElem_mem hi'))
  cases i with
  | zero =>
    rw [shapeAt_zero (by omega)] at hs ⊢
    simp only [Bool.and_eq_true] at hs ⊢
    rw [hget 0 hi']
    exact ⟨hs.1, hfb⟩
  | succ j =>
    rw [shapeAt_succ (by omega)] at hs ⊢
    simp only [Bool.and_eq_true] at hs ⊢
    rw [hget (j + 1) hi', hget j (by omega)]
    exact ⟨hs.1, hfb⟩
theorem mends_rev {Ss : List Sh} {Ms : List Md} (h : mendsB Ss Ms = true) : mendsB (roundS Ss) Ms = true := by
  have hs := mendsB_shapes h
  have h0 := h
  unfold mendsB at h0 ⊢
  simp only [Bool.and_eq_true, List.all_eq_true] at h0 ⊢
  refine ⟨⟨⟨shapes_rev hs, h0.1.1.2⟩, fun m hm => ?_⟩, fun y hy => ?_⟩
  · have hb := h0.1.2 m hm
    unfold mendB at hb ⊢
    rw [shOf_round]
    cases hx : shOf Ss m.kind with
    | none => rw [hx] at hb; cases hb
    | some x =>
      rw [hx] at hb
      show mendS x.fields.reverse m = true
      rw [mendS_rev (apt_of (shapes_fields hs (shOf_mem hx).1))]
      exact hb
  · obtain ⟨x, hx, rfl⟩ := List.mem_map.1 hy
    exact row_rev (h0.2 x hx)
/-- IN THE OPPOSITE ORDER THE SAME COMES OF IT -/
theorem MendTo.rev {Ss : List Sh} {Ms : List Md} {kind : ByteArray} {V F : List ByteArray} (hm : mendsB Ss Ms = true) (h : MendTo Ss Ms kind V F) : MendTo (roundS Ss) Ms kind V.reverse F.reverse := by
  rcases h with ⟨x, a1, a2, a3, a4⟩ | ⟨a1, a2⟩
  · have ha := apt_of (shapes_fields (mendsB_shapes hm) (shOf_mem a2).1)
    have hlF : x.fields.length = F.length := a3.trans a4.len.symm
    refine Or.inl ⟨revSh x, mends_rev hm, by rw [shOf_round, a2]; rfl, by show x.fields.reverse.length = _; rw [List.length_reverse, List.length_reverse]; exact a3, ?_⟩
    refine ⟨by rw [List.length_reverse, List.length_reverse]; exact a4.len, fun s hs => ?_, fun i hi => ?_⟩
    · have hs' : s ∈ namesF x.fields := mem_names_rev.1 hs
      show F.reverse[plOf x.fields.reverse s]? = (decM x.fields.reverse x.kind Ms F.reverse s).or V.reverse[plOf x.fields.reverse s]?
      rw [val_rev ha hlF hs', val_rev ha a3 hs', decM_rev ha hlF (named_of hm a2)]
      exact a4.at' s hs'
    · have hge : x.fields.length ≤ i := by
        rcases Nat.lt_or_ge i x.fields.length with hlt | hge
        · exfalso
          have hir : i < x.fields.reverse.length := by rw [List.length_reverse]; exact hlt
          exact hi _ (mem_namesF.2 ⟨i, hir, rfl⟩) (apt_place ha.rev hir)
        · exact hge
      rw [List.getElem?_eq_none (by rw [List.length_reverse]; omega), List.getElem?_eq_none (by rw [List.length_reverse]; omega)]
  · subst a2
    refine Or.inr ⟨Or.inr fun y hy => ?_, rfl⟩
    rw [shOf_round] at hy
    obtain ⟨x, hx, rfl⟩ := Option.map_eq_some_iff.1 hy
    show x.fields.reverse.length ≠ _
    rw [List.length_reverse, List.length_reverse]
    rcases a1 with a1 | a1
    · rw [hm] at a1; cases a1
    · exact a1 x hx
end Go.Proofs.YtjkkbkdpoebfaaaGreat
