
import Derived.Test.YtobijdenhbpdfaaDoorD10
import Derived.Laws.Concat
namespace Go.Proofs.YtobijdenhbpdfaaDoor
open Go.RowKit Go.Deep

theorem owns_tmsN {base g cap n : Nat} {W : World} {Ts : List Tm} (hn : Ts.length = n) (h : W.ownsRow base 71 2 (.slice (some ⟨g, 0, none⟩) n cap) n (tvs Ts)) (hs : FewT Ts) : TmsAt base W (.slice (some ⟨g, 0, none⟩) n cap) Ts := by
  subst hn
  exact owns_tms h hs
theorem cell_new2 (X : World) (g : Nat) (u u' : Value) (t : TypeId) (hg : X.heap.size = g) : ∀ j x, [u, u'][j]? = some x → (X.alloc (.cells #[u, u'] t)).cell? ((⟨g, 0, none⟩ : Addr).add j) = some x := by
  intro j x hx
  subst hg
  rw [Go.WideShapes.add_plain, Nat.zero_add]
  match j, hx with
  | 0, hx => simpa using hx
  | 1, hx => simpa using hx
theorem two_oneCell (s t : ByteArray) : ∀ u ∈ [Value.string s, .string t], u.oneCell' = true := fun u hu => by
  rcases List.mem_cons.1 hu with rfl | hu
  · rfl
  · rw [List.mem_singleton.1 hu]; rfl
/-- a row of teams of a call's own making -/
structure TmOwn (w : World) (ρ q : Nat) (bs : List UInt8) (g cap : Nat) (Ts : List Tm) (W : World) : Prop where
  own : W.ownsRow w.heap.size 71 2 (.slice (some ⟨g, 0, none⟩) Ts.length cap) Ts.length (tvs Ts)
  few : FewT Ts
  rd : Rd W ρ q bs
  tch : Tch ρ w W
  lt : ρ < w.heap.size
theorem TmOwn.ge {w W : World} {ρ q g cap : Nat} {bs : List UInt8} {Ts : List Tm} (h : TmOwn w ρ q bs g cap Ts W) : w.heap.size ≤ g ∧ g < W.heap.size := by
  have := owns_lt h.own (g := g) rfl
  exact ⟨this.2, this.1⟩
theorem TmOwn.step {w W W' : World} {ρ q q' g cap : Nat} {bs : List UInt8} {Ts : List Tm} (h : TmOwn w ρ q bs g cap Ts W) (hr : Rd W' ρ q' bs) (ht : Tch ρ W W') : TmOwn w ρ q' bs g cap Ts W' := ⟨owns_tch h.own ht h.lt, h.few, hr, h.tch.trans ht, h.lt⟩
theorem TmOwn.cell {w W : World} {ρ q g cap : Nat} {bs : List UInt8} {Ts : List Tm} (h : TmOwn w ρ q bs g cap Ts W) {i : Nat} (hi : i < Ts.length) : W.cell? ⟨g, i * 2, none⟩ = some (.string Ts[i].nm) ∧ W.cell? ⟨g, i * 2 + 1, none⟩ = some (.string Ts[i].ov) :=
  ⟨(h.own.cellAt _ (by omega)).trans (tvs_at Ts i hi).1, (h.own.cellAt _ (by omega)).trans (tvs_at Ts i hi).2⟩
theorem TmOwn.set0 {w W : World} {ρ q g cap : Nat} {bs : List UInt8} {Ts : List Tm} (h : TmOwn w ρ q bs g cap Ts W) {i : Nat} (hi : i < Ts.length) {s : ByteArray} (hs : s.size ≤ 1000) :
    TmsAt w.heap.size (W.setCell ⟨g, i * 2, none⟩ (.string s)) (.slice (some ⟨g, 0, none⟩) Ts.length cap) (Ts.set i ⟨s, Ts[i].ov⟩) ∧ FewT (Ts.set i ⟨s, Ts[i].ov⟩) ∧ Rd (W.setCell ⟨g, i * 2, none⟩ (.string s)) ρ q bs ∧ Tch ρ w (W.setCell ⟨g, i * 2, none⟩ (.string s)) := by
  have hf : FewT (Ts.set i ⟨s, Ts[i].ov⟩) := h.few.set i ⟨hs, (h.few _ (List.getElem_mem hi)).2⟩
  have hg := h.ge
  have hl := h.lt
  refine ⟨owns_tmsN (by simp) ?_ hf, hf, h.rd.other (by omega) _, h.tch.other hg.1 _⟩
  rw [← tvs_set0 Ts i hi]
  exact (h.own.stored _ _).1
theorem TmOwn.set1 {w W : World} {ρ q g cap : Nat} {bs : List UInt8} {Ts : List Tm} (h : TmOwn w ρ q bs g cap Ts W) {i : Nat} (hi : i < Ts.length) {s : ByteArray} (hs : s.size ≤ 1000) :
    TmsAt w.heap.size (W.setCell ⟨g, i * 2 + 1, none⟩ (.string s)) (.slice (some ⟨g, 0, none⟩) Ts.length cap) (Ts.set i ⟨Ts[i].nm, s⟩) ∧ FewT (Ts.set i ⟨Ts[i].nm, s⟩) ∧ Rd (W.setCell ⟨g, i * 2 + 1, none⟩ (.string s)) ρ q bs ∧ Tch ρ w (W.setCell ⟨g, i * 2 + 1, none⟩ (.string s)) := by
  have hf : FewT (Ts.set i ⟨Ts[i].nm, s⟩) := h.few.set i ⟨(h.few _ (List.getElem_mem hi)).1, hs⟩
  have hg := h.ge
  have hl := h.lt
  refine ⟨owns_tmsN (by simp) ?_ hf, hf, h.rd.other (by omega) _, h.tch.other hg.1 _⟩
  rw [← tvs_set1 Ts i hi]
  exact (h.own.stored _ _).1
/-- behind an append -/
theorem TmOwn.app {w W W1 W' : World} {ρ q g cap g' cap' : Nat} {bs : List UInt8} {Ts : List Tm} (h : TmOwn w ρ q bs g cap Ts W) (hb1 : Below W.heap.size W W1) (t : Tm) (ht : t.nm.size ≤ 1000 ∧ t.ov.size ≤ 1000)
    (hown : W'.ownsRow w.heap.size 71 2 (.slice (some ⟨g', 0, none⟩) (Ts.length + 1) cap') (Ts.length + 1) (tvs Ts ++ [.string t.nm, .string t.ov])) (hgrow : W1.grownBy W' (Value.slice (some ⟨g, 0, none⟩) Ts.length cap).ownBlock) : TmOwn w ρ q bs g' cap' (Ts ++ [t]) W' := by
  have hb : Below w.heap.size W1 W' := owns_grown (owns_below h.own hb1) hgrow (Nat.le_trans h.tch.size hb1.size)
  refine ⟨?_, h.few.app (FewT.one ht), (h.rd.below hb1).belowB hb h.lt, (h.tch.trans (Tch.below hb1)).belowB hb (Nat.le_refl _), h.lt⟩
  rw [List.length_append, tvs_app]
  exact hown

set_option maxRecDepth 20000 in
set_option maxHeartbeats 8000000 in
theorem l4SpoilTeams_any (lo ρ p : Nat) (bs : List UInt8) (v : Value) (Ts : List Tm) (w : World) (h : Rd w ρ p bs) (hp : p ≤ 100000000) (hT : TmsAt lo w v Ts) (h1 : 1 ≤ Ts.length) (h2 : Ts.length ≤ 6) (hf : FewT Ts) :
    Calls Tryd.prog 30 #[.pointer (some ⟨ρ, 0, none⟩), v] w fun e w' => ∃ (v' : Value) (Ts' : List Tm), e = .returned v' ∧ TmsAt w.heap.size w' v' Ts' ∧ Ts'.length ≤ 20 ∧ FewT Ts' ∧ (∃ q, p ≤ q ∧ q ≤ p + 20 ∧ Rd w' ρ q bs) ∧ Tch ρ w w' := by
  obtain ⟨i0, hi, hz0, hz1, hz2⟩ := info_parts Tryd.info71
  have HI := hide (And.intro hi (And.intro hz0 (And.intro hz1 hz2)))
  clear hi hz0 hz1 hz2
  have HR := hide h
  have hlt := h.lt
  have HF := hide hf
  have HT := hide hT
  obtain ⟨a, cap, rfl⟩ := hT.form
  obtain ⟨b, off, rfl, hbw, -⟩ := hT.full' (by omega)
  clear h hf hT
  go_enter Tryd.func30, Tryd.ntmps30
  go_wp2_with (at_builtin; refine wpList_append_lies _ rfl (.tmp 7) (.tmp 8) 23 rfl w.heap.size 71 i0 (.agg #[.string ⟨#[]⟩, .string ⟨#[]⟩]) 2 32 Tryd.underlying23 HI.out.1 HI.out.2.1 HI.out.2.2.1 HI.out.2.2.2 rfl (by decide) _ 0 [] rfl (owns_made _ _ 71 2 rfl (Nat.le_refl _)) ⟨b, off, none⟩ Ts.length cap (tvs Ts) rfl (tvs_len _) (HT.out.news (one_al _ _)) (tvs_one _) (by omega) (by unfold maxLen; omega) (by omega) (by simp) _ rfl ?_; intro g cap1 w1 hown hgrow hat hlt1)
  have hB : Below w.heap.size (w.alloc (.cells #[] 71)) w1 := owns_grown (owns_made w w.heap.size 71 2 rfl (Nat.le_refl _)) hgrow (by simp)
  rw [Nat.zero_add, List.nil_append] at hown
  have HO : Hid (TmOwn w ρ p bs g cap1 Ts w1) := ⟨hown, HF.out, (HR.out.below (one_al _ _)).belowB hB hlt, (Tch.below (one_al _ _)).belowB hB (Nat.le_refl _), hlt⟩
  clear hown hgrow hat hlt1 hB
  refine (pick_any ρ p bs Ts.length w1 HO.out.rd (by omega) (by omega) (by omega)).mono ?_
  rintro e w2 ⟨x, rfl, hx0, hx1, hr, ht⟩
  obtain ⟨i, rfl⟩ := Int.eq_ofNat_of_zero_le hx0
  have hil : i < Ts.length := by omega
  have HO2 := hide (HO.out.step hr ht)
  clear hr ht HO hx0 hx1
  go_wp2_with fail
  refine (pick_any ρ (p + 1) bs 6 w2 HO2.out.rd (by omega) (by decide) (by decide)).mono ?_
  rintro e w3 ⟨x, rfl, hx0, hx1, hr, ht⟩
  have HO3 := hide (HO2.out.step hr ht)
  clear hr ht HO2
  have hx : x = 0 ∨ x = 1 ∨ x = 2 ∨ x = 3 ∨ x = 4 ∨ x = 5 := by omega
  have hge := HO3.out.ge
  clear hx0 hx1
  rcases hx with rfl | rfl | rfl | rfl | rfl | rfl
  · go_wp2_with fail
    refine (ofBuilt_any ρ (p + 1 + 1) bs _ _ 4 w3 HO3.out.rd (by omega) (by rfl) rfl (by decide) (by decide)).mono ?_
    rintro e w4 ⟨s, rfl, hs, hr, ht⟩
    have HO4 := hide (HO3.out.step hr ht)
    obtain ⟨c0, c1⟩ := HO4.out.cell hil
    have fr := HO4.out.own.frozenAt (i * 2)
    have HE := hide (HO4.out.set0 hil hs)
    clear hr ht HO3
    go_wp2
    go_ret
    exact ⟨_, _, rfl, HE.out.1, by simp; omega, HE.out.2.1, ⟨_, by omega, by omega, HE.out.2.2.1⟩, HE.out.2.2.2⟩
  · obtain ⟨c0, c1⟩ := HO3.out.cell hil
    have hS : isS (.string Ts[i].nm) = true := decide_eq_true (HF.out _ (List.getElem_mem hil)).1
    go_wp2_with fail
    refine (ofBuilt_any ρ (p + 1 + 1) bs _ _ 5 w3 HO3.out.rd (by omega) (by show (_ && (_ && (isS (.string Ts[i].nm) && (_ && (_ && true))))) = true; rw [hS]; rfl) rfl (by decide) (by decide)).mono ?_
    rintro e w4 ⟨s, rfl, hs, hr, ht⟩
    have HO4 := hide (HO3.out.step hr ht)
    clear c0 c1
    obtain ⟨c0, c1⟩ := HO4.out.cell hil
    have fr := HO4.out.own.frozenAt (i * 2 + 1)
    have HE := hide (HO4.out.set1 hil hs)
    clear hr ht HO3
    go_wp2
    go_ret
    exact ⟨_, _, rfl, HE.out.1, by simp; omega, HE.out.2.1, ⟨_, by omega, by omega, HE.out.2.2.1⟩, HE.out.2.2.2⟩
  · obtain ⟨c0, c1⟩ := HO3.out.cell hil
    have hts := HF.out _ (List.getElem_mem hil)
    go_wp2_with (at_builtin; refine wpList_append_lies _ rfl (.tmp 51) (.tmp 56) 23 rfl w.heap.size 71 i0 (.agg #[.string ⟨#[]⟩, .string ⟨#[]⟩]) 2 32 Tryd.underlying23 HI.out.1 HI.out.2.1 HI.out.2.2.1 HI.out.2.2.2 rfl (by decide) _ Ts.length (tvs Ts) rfl (owns_below HO3.out.own (one_al _ _)) ⟨w3.heap.size, 0, none⟩ 1 1 [.string Ts[i].nm, .string Ts[i].ov] rfl rfl (cell_new2 _ _ _ _ _ rfl) (two_oneCell _ _) (by decide) (by unfold maxLen; omega) (by omega) (by have := HO3.out.tch.size; simp; omega) _ rfl ?_; intro g' cap' w4 hown hgrow hat hlt1)
    have HE := hide (HO3.out.app (one_al _ _) Ts[i] hts hown hgrow)
    clear hown hgrow hat hlt1
    go_ret
    exact ⟨_, _, rfl, owns_tmsN (by simp) (by have := HE.out.own; rw [List.length_append] at this; exact this) HE.out.few, by simp; omega, HE.out.few, ⟨_, by omega, by omega, HE.out.rd⟩, HE.out.tch⟩
  · go_wp2
    go_loopw [5] (fun v wr => ∃ (g cap : Nat) (Ts' : List Tm) (q : Nat), v = .slice (some ⟨g, 0, none⟩) Ts'.length cap ∧ Ts'.length ≤ 13 ∧ p + 1 + 1 ≤ q ∧ q ≤ p + 2 + Ts'.length ∧ TmOwn w ρ q bs g cap Ts' wr) (fun v _ => 14 - (match v with | .slice _ n _ => n | _ => 0))
    case atStart => exact ⟨g, cap1, Ts, p + 1 + 1, rfl, by omega, by omega, by omega, HO3.out⟩
    case round =>
      clear HO3 HF HT HR hge
      obtain ⟨g, cap, Ts, q, rfl, hl13, hq1, hq2, hO⟩ := hrel
      have HO := hide hO
      clear hO
      go_wp2_with fail
      refine (pick_any ρ q bs 2 wr HO.out.rd (by omega) (by decide) (by decide)).mono ?_
      rintro e w4 ⟨x, rfl, hx0, hx1, hr, ht⟩
      have HO4 := hide (HO.out.step hr ht)
      clear hr ht HO
      have hw12 : wrap64 (12 + x) = 12 + x := by unfold wrap64; omega
      by_cases hc : (Ts.length : Int) < 12 + x
      · have hd : decide ((Ts.length : Int) < 12 + x) = true := decide_eq_true hc
        have hl12 : Ts.length ≤ 12 := by omega
        clear hc
        go_wp2_with fail
        refine (l1Many_any ⟨#[122]⟩ Ts.length w4 (by show 1 * Ts.length ≤ _; omega) (by omega) (by decide)).mono ?_
        rintro e w4' ⟨rfl, os, rfl, hos⟩
        have hos' : os.size ≤ 12 := by rw [hos]; show 1 * Ts.length ≤ 12; omega
        have had : ∀ W, (Op.stringOp .add ⟨#[115]⟩ os).run Tryd.prog W = .ok (.string (⟨#[115]⟩ ++ os)) W := fun W => run_string_add_sum (P := Tryd.prog) (w := W) _ os (by show 1 + os.size ≤ _; omega)
        have hsz : ((⟨#[115]⟩ : ByteArray) ++ os).size ≤ 1000 := by rw [ByteArray.size_append]; show 1 + os.size ≤ 1000; omega
        generalize (⟨#[115]⟩ : ByteArray) ++ os = sn at *
        go_wp2_with (at_builtin; refine wpList_append_lies _ rfl (.tmp 66) (.tmp 72) 23 rfl w.heap.size 71 i0 (.agg #[.string ⟨#[]⟩, .string ⟨#[]⟩]) 2 32 Tryd.underlying23 HI.out.1 HI.out.2.1 HI.out.2.2.1 HI.out.2.2.2 rfl (by decide) _ Ts.length (tvs Ts) rfl (owns_below HO4.out.own (one_al _ _)) ⟨w4'.heap.size, 0, none⟩ 1 1 [.string sn, .string ⟨#[]⟩] rfl rfl (cell_new2 _ _ _ _ _ rfl) (two_oneCell _ _) (by decide) (by unfold maxLen; omega) (by omega) (by have := HO4.out.tch.size; simp; omega) _ rfl ?_; intro g' cap' w5 hown hgrow hat hlt1)
        have HE := hide (HO4.out.app (one_al _ _) ⟨sn, ⟨#[]⟩⟩ ⟨hsz, Nat.zero_le _⟩ hown hgrow)
        clear hown hgrow hat hlt1 had
        go_roundw
        case rel => exact ⟨g', cap', _, q + 1, by rw [List.length_append]; rfl, by simp; omega, by omega, by simp; omega, HE.out⟩
        case measure => simp; omega
      · have hd : decide ((Ts.length : Int) < 12 + x) = false := decide_eq_false hc
        clear hc
        go_wp2
        go_ret
        exact ⟨_, Ts, rfl, owns_tms HO4.out.own HO4.out.few, by omega, HO4.out.few, ⟨_, by omega, by omega, HO4.out.rd⟩, HO4.out.tch⟩
  · go_wp2_with (at_builtin; refine wpList_append_lies _ rfl (.tmp 76) (.tmp 78) 23 rfl w.heap.size 71 i0 (.agg #[.string ⟨#[]⟩, .string ⟨#[]⟩]) 2 32 Tryd.underlying23 HI.out.1 HI.out.2.1 HI.out.2.2.1 HI.out.2.2.2 rfl (by decide) _ Ts.length (tvs Ts) rfl (owns_below HO3.out.own (one_al _ _)) ⟨w3.heap.size, 0, none⟩ 1 1 [.string ⟨#[114, 52]⟩, .string ⟨#[114, 51]⟩] rfl rfl (cell_new2 _ _ _ _ _ rfl) (two_oneCell _ _) (by decide) (by unfold maxLen; omega) (by omega) (by have := HO3.out.tch.size; simp; omega) _ rfl ?_; intro g' cap' w4 hown hgrow hat hlt1)
    have HE := hide (HO3.out.app (one_al _ _) ⟨⟨#[114, 52]⟩, ⟨#[114, 51]⟩⟩ (by decide) hown hgrow)
    clear hown hgrow hat hlt1
    go_ret
    exact ⟨_, _, rfl, owns_tmsN (by simp) (by have := HE.out.own; rw [List.length_append] at this; exact this) HE.out.few, by simp; omega, HE.out.few, ⟨_, by omega, by omega, HE.out.rd⟩, HE.out.tch⟩
  · obtain ⟨k, hk⟩ : ∃ k, Ts.length = k + 1 := ⟨Ts.length - 1, by omega⟩
    have hkl : k < Ts.length := by omega
    have h0n : 0 < Ts.length := by omega
    have c0 := (HO3.out.cell hkl).1
    have c1 := (HO3.out.cell (i := 0) h0n).2
    have fr := HO3.out.own.frozenAt 1
    have e1 : wrap64 ((Ts.length : Int) - 1) = k := by unfold wrap64; omega
    have e2 : IntKind.i64.wrap ((Ts.length : Int) - 1) = k := by rw [IntWalk.i64_left]; exact e1
    have HE := hide (HO3.out.set1 (i := 0) h0n (HF.out _ (List.getElem_mem hkl)).1)
    have h0l : (0 : Int) < Ts.length := by omega
    simp only [Nat.zero_mul, Nat.zero_add] at c1 HE
    have HK := hide hk
    clear hk
    go_wp2
    go_ret
    exact ⟨_, _, rfl, HE.out.1, by simp; omega, HE.out.2.1, ⟨_, by omega, by omega, HE.out.2.2.1⟩, HE.out.2.2.2⟩

set_option maxRecDepth 20000 in
set_option maxHeartbeats 2000000 in
theorem l4AnyTeams_any (ρ p : Nat) (bs : List UInt8) (w : World) (h : Rd w ρ p bs) (hp : p ≤ 90000000) :
    Calls Tryd.prog 12 #[.pointer (some ⟨ρ, 0, none⟩)] w fun e w' => ∃ (v : Value) (Ts : List Tm), e = .returned v ∧ TmsAt w.heap.size w' v Ts ∧ Ts.length ≤ 20 ∧ FewT Ts ∧ (∃ q, p ≤ q ∧ q ≤ p + 30 ∧ Rd w' ρ q bs) ∧ Tch ρ w w' := by
  have HR := hide h
  have hlt := h.lt
  clear h
  go_enter Tryd.func12, Tryd.ntmps12
  go_wp2_with fail
  refine (l4DrawTeams_any ρ p bs w HR.out (by omega)).mono ?_
  rintro e w1 ⟨v, Ts, rfl, hT, ⟨hl1, hl2⟩, hf, hr, ht⟩
  have HT := hide hT
  have HF := hide hf
  have HR1 := hide hr
  have HC1 := hide ht
  have hz := ht.size
  clear hT hf hr ht HR
  go_wp2_with fail
  refine (pick_any ρ (p + 1) bs 16 w1 HR1.out (by omega) (by decide) (by decide)).mono ?_
  rintro e w2 ⟨x, rfl, hx0, hx1, hr, ht⟩
  have HT2 := hide (HT.out.tch ht (by omega))
  have HR2 := hide hr
  have HC2 := hide (HC1.out.trans ht)
  have hz2 := ht.size
  clear hr ht HT HR1 HC1
  by_cases h0 : x = 0
  · subst h0
    go_wp2_with fail
    refine (l4SpoilTeams_any w.heap.size ρ (p + 1 + 1) bs v Ts w2 HR2.out (by omega) HT2.out hl1 hl2 HF.out).mono ?_
    rintro e w3 ⟨v', Ts', rfl, hT3, hl3, hf3, ⟨q, hq1, hq2, hr3⟩, ht3⟩
    have HE := hide (And.intro (hT3.mono (Nat.le_trans hz hz2)) (And.intro hf3 (And.intro hr3 (HC2.out.trans ht3))))
    clear hT3 hf3 hr3 ht3
    go_wp2
    go_ret
    exact ⟨_, Ts', rfl, HE.out.1, hl3, HE.out.2.1, ⟨q, by omega, by omega, HE.out.2.2.1⟩, HE.out.2.2.2⟩
  · have e0 : (x == 0) = false := by rw [beq_eq_false_iff_ne]; exact h0
    go_wp2
    go_ret
    exact ⟨_, Ts, rfl, HT2.out, by omega, HF.out, ⟨_, by omega, by omega, HR2.out⟩, HC2.out⟩
end Go.Proofs.YtobijdenhbpdfaaDoor
