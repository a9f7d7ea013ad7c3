import Derived.Test.YtjkkbkdpoebfaaaGreatV25
import Derived.Maps.AppendAt
namespace Go.Proofs.YtjkkbkdpoebfaaaGreat
open Go.RowKit Go.Deep

theorem mendInfo : (Tryz.prog.info? 54).map (fun i => (i.zero, i.size, i.bytes)) = some (some (.agg #[.string ⟨#[]⟩, .string ⟨#[]⟩, .string ⟨#[]⟩, .string ⟨#[]⟩, .string ⟨#[]⟩, .string ⟨#[]⟩]), 6, 96) := by kernel_rfl
def mdC (m : Md) : List Value := [.string m.kind, .string m.field, .string m.wh, .string m.is, .string m.put, .string m.fr]
theorem mdC_len (m : Md) : (mdC m).length = 6 := rfl
theorem mdC_one (m : Md) : ∀ u ∈ mdC m, u.oneCell' = true := fun u hu => by
  simp [mdC] at hu
  rcases hu with rfl | rfl | rfl | rfl | rfl | rfl <;> rfl
structure MdFew (m : Md) : Prop where
  s0 : m.kind.size ≤ 1000
  s1 : m.field.size ≤ 1000
  s2 : m.wh.size ≤ 1000
  s3 : m.is.size ≤ 1100000
  s4 : m.put.size ≤ 1100000
  s5 : m.fr.size ≤ 1000
/-- a row of mends of one's own -/
structure MdR (base : Nat) (v : Value) (L : List Md) (W : World) : Prop where
  own : W.ownsRow base 54 6 v L.length (flatC mdC L)
  few : ∀ m ∈ L, MdFew m
theorem MdR.kept {base : Nat} {v : Value} {L : List Md} {W W' : World} (h : MdR base v L W) (hk : ∀ k, v.ownBlock = some k → W'.heap[k]? = W.heap[k]?) : MdR base v L W' := ⟨owns_kept h.own hk, h.few⟩
theorem MdR.below {base : Nat} {v : Value} {L : List Md} {W W' : World} (h : MdR base v L W) (hb : Below W.heap.size W W') : MdR base v L W' := h.kept fun k hk => hb.block k (owns_lt h.own hk).1
theorem MdR.tch {base ρ : Nat} {v : Value} {L : List Md} {W W' : World} (h : MdR base v L W) (ht : Tch ρ W W') (hl : ρ < base) : MdR base v L W' := h.kept fun k hk => ht.block k (owns_lt h.own hk).1 (by have := (owns_lt h.own hk).2; omega)
theorem MdR.form {base : Nat} {v : Value} {L : List Md} {W : World} (h : MdR base v L W) : ∃ a cap, v = .slice a L.length cap := owns_form h.own
theorem MdR.mono {base base' : Nat} {v : Value} {L : List Md} {W : World} (h : MdR base v L W) (hb : base' ≤ base) : MdR base' v L W := ⟨owns_lo h.own hb, h.few⟩
theorem MdR.app {base g cap : Nat} {L M : List Md} {W' : World} (hL : ∀ m ∈ L, MdFew m) (hM : ∀ m ∈ M, MdFew m) (hown : W'.ownsRow base 54 6 (.slice (some ⟨g, 0, none⟩) (L.length + M.length) cap) (L.length + M.length) (flatC mdC L ++ flatC mdC M)) : MdR base (.slice (some ⟨g, 0, none⟩) (L.length + M.length) cap) (L ++ M) W' :=
  ⟨by rw [List.length_append, flatC_app]; exact hown, fun m hm => by
    rcases List.mem_append.1 hm with h | h
    · exact hL m h
    · exact hM m h⟩
theorem owns_news {base : Nat} {e : TypeId} {sz n cap b off : Nat} {W : World} {cs : List Value} (h : W.ownsRow base e sz (.slice (some ⟨b, off, none⟩) n cap) n cs) {W' : World} (hk : W'.heap[b]? = W.heap[b]?) : ∀ j u, cs[j]? = some u → W'.cell? ((⟨b, off, none⟩ : Addr).add j) = some u := fun j u hu => by
  rcases h.2 with ⟨hv, _⟩ | ⟨g, cap', cur, hv, h1, h2, h3, h4, h5, h6⟩
  · cases hv
  · cases hv
    have hadd : (⟨b, 0, none⟩ : Addr).add j = ⟨b, j, none⟩ := by unfold Addr.add; split <;> simp_all
    rw [hadd, cell_of_row W' b j cur e (0, 0) (hk.trans h2)]
    rw [← h6] at hu
    have hlt : j < n * sz := by
      rcases Nat.lt_or_ge j (n * sz) with hj | hj
      · exact hj
      · rw [List.getElem?_eq_none (by rw [List.length_take]; omega)] at hu; cases hu
    rw [List.getElem?_take_of_lt hlt] at hu
    simpa using hu
def sliceN : Value → Nat
  | .slice _ n _ => n
  | _ => 0
theorem own_ne {g k n c μ : Nat} (h : (Value.slice (some ⟨g, 0, none⟩) n c).ownBlock = some k) (hm : g ≠ μ) : k ≠ μ := by
  have e : g = k := by simpa [Value.ownBlock] using h
  subst e
  exact hm
theorem owns_built {base n sz : Nat} {e : TypeId} (W : World) (C : List Value) (hb : base ≤ W.heap.size) (hn : n ≤ maxLen) (hC : C.length = n * sz) : (W.alloc (.cells C.toArray e)).ownsRow base e sz (.slice (some ⟨W.heap.size, 0, none⟩) n n) n C :=
  ⟨hC, Or.inr ⟨W.heap.size, n, C.toArray, rfl, hb, by show (W.heap.push _)[W.heap.size]? = _; simp, Nat.le_refl _, hn, by simpa using hC, by rw [List.take_of_length_le (by simp [hC])]⟩⟩
theorem cells_newM (X : World) (g : Nat) (C : List Value) (t : TypeId) (hg : X.heap.size = g) : ∀ j x, C[j]? = some x → (X.alloc (.cells C.toArray t)).cell? ((⟨g, 0, none⟩ : Addr).add j) = some x := fun j x hx => by
  have hadd : (⟨g, 0, none⟩ : Addr).add j = ⟨g, j, none⟩ := by unfold Addr.add; split <;> simp_all
  rw [hadd, new_cell _ _ _ _ _ hg]
  simpa using hx
theorem flatC_one : ∀ (L : List Md), ∀ u ∈ flatC mdC L, u.oneCell' = true
  | [], u, hu => by cases hu
  | m :: L, u, hu => by
    rcases List.mem_append.1 hu with h | h
    · exact mdC_one m u h
    · exact flatC_one L u h

set_option maxRecDepth 20000 in
set_option maxHeartbeats 16000000 in
theorem l3SpoilMends_any (lo ρ p : Nat) (bs : List UInt8) (L : List Md) (w : World) (h : Rd w ρ p bs) (hp : p ≤ 800000000) (b off cap : Nat) (hM : MdR lo (.slice (some ⟨b, off, none⟩) L.length cap) L w) (_hl : ρ < lo) (hL : L.length ≤ 20) :
    Calls Tryz.prog 51 #[.pointer (some ⟨ρ, 0, none⟩), .slice (some ⟨b, off, none⟩) L.length cap] w fun e w' => ∃ (v' : Value) (L' : List Md), e = .returned v' ∧ MdR w.heap.size v' L' w' ∧ L'.length ≤ 40 ∧ (∃ q, p ≤ q ∧ q ≤ p + 60 ∧ Rd w' ρ q bs) ∧ Tch ρ w w' := by
  obtain ⟨i1, f1, f2, f3, f4⟩ := info_parts mendInfo
  have HI := hide (And.intro f1 (And.intro f2 (And.intro f3 f4)))
  have HR := hide h
  have hlt := h.lt
  have HM := hide hM
  have hbw : b < w.heap.size := (owns_lt hM.own (g := b) rfl).1
  clear h hM f1 f2 f3 f4
  have HME : Hid (MdR w.heap.size (.slice (some ⟨w.heap.size, 0, none⟩) 0 0) [] (w.alloc (.cells #[] 54))) := ⟨World.ownsRow_made (base := w.heap.size) (e := 54) (size := 6) w #[] 0 (Nat.le_refl _) (Nat.zero_le _) (by simp), fun m hm => by cases hm⟩
  go_enter Tryz.func51, Tryz.ntmps51
  go_upto_region 2 with (at_builtin; refine wpList_append_own_at _ rfl (.tmp 8) (.tmp 9) 24 rfl w.heap.size 54 i1 (.agg #[.string ⟨#[]⟩, .string ⟨#[]⟩, .string ⟨#[]⟩, .string ⟨#[]⟩, .string ⟨#[]⟩, .string ⟨#[]⟩]) 6 96 Tryz.underlying24 HI.out.1 HI.out.2.1 HI.out.2.2.1 HI.out.2.2.2 rfl (by decide) (.slice (some ⟨w.heap.size, 0, none⟩) 0 0) 0 [] rfl HME.out.own ⟨b, off, none⟩ L.length cap (flatC mdC L) rfl (flatC_len mdC 6 mdC_len L) (owns_news HM.out.own ((one_al w _).block b hbw)) (flatC_one L) (by unfold maxLen; omega) (by omega) (by simp) ?_; intro v1 w1 hown hgrow hnil hat)
  rw [Nat.zero_add, List.nil_append] at hown
  have hb1 := owns_grown HME.out.own hgrow (by simp)
  have hbA : Below w.heap.size w w1 := (one_al w _).trans hb1
  have HM1 : Hid (MdR w.heap.size v1 L w1) := ⟨hown, HM.out.few⟩
  obtain ⟨a1, c1, rfl⟩ := HM1.out.form
  replace HR := hide (HR.out.below hbA)
  have HT : Hid (Tch ρ w w1) := Tch.below hbA
  have hz1 := hbA.size
  clear hown hgrow hnil hat hb1 hbA HME
  by_cases hL0 : L.length = 0
  ·
    have hL0' : (L.length : Int) = 0 := by omega
    go_wp2_with fail
    refine (ofBuilt_any ρ _ bs _ _ 2 w1 HR.out (by omega) (by decide) rfl (by decide) (by decide)).mono ?_
    rintro e w2 ⟨s1, rfl, hs, hr, ht⟩
    have Hs1 := hide hs
    replace HR : Hid (Rd w2 ρ (p + 1) bs) := hr
    replace HT := hide (HT.out.trans ht)
    clear hr ht
    clear hs
    go_wp2_with fail
    refine (ofBuilt_any ρ _ bs _ _ 3 w2 HR.out (by omega) (by decide) rfl (by decide) (by decide)).mono ?_
    rintro e w3 ⟨s2, rfl, hs, hr, ht⟩
    have Hs2 := hide hs
    replace HR : Hid (Rd w3 ρ (p + 2) bs) := hr
    replace HT := hide (HT.out.trans ht)
    clear hr ht
    clear hs
    go_wp2_with fail
    refine (ofBuilt_any ρ _ bs _ _ 3 w3 HR.out (by omega) (by decide) rfl (by decide) (by decide)).mono ?_
    rintro e w4 ⟨s3, rfl, hs, hr, ht⟩
    have Hs3 := hide hs
    replace HR : Hid (Rd w4 ρ (p + 3) bs) := hr
    replace HT := hide (HT.out.trans ht)
    clear hr ht
    clear hs
    go_wp2_with fail
    refine (ofBuilt_any ρ _ bs _ _ 3 w4 HR.out (by omega) (by decide) rfl (by decide) (by decide)).mono ?_
    rintro e w5 ⟨s4, rfl, hs, hr, ht⟩
    have Hs4 := hide hs
    replace HR : Hid (Rd w5 ρ (p + 4) bs) := hr
    replace HT := hide (HT.out.trans ht)
    clear hr ht
    clear hs
    have hz5 := HT.out.size
    go_wp2
    go_ret
    have HOM : Hid (World.ownsRow _ w.heap.size 54 6 _ 1 (mdC ⟨⟨#[107]⟩, s1, s2, ⟨#[]⟩, s3, s4⟩)) := owns_built (base := w.heap.size) (n := 1) (sz := 6) (e := 54) w5 (mdC ⟨⟨#[107]⟩, s1, s2, ⟨#[]⟩, s3, s4⟩) hz5 (by unfold maxLen; omega) rfl
    exact ⟨_, [⟨⟨#[107]⟩, s1, s2, ⟨#[]⟩, s3, s4⟩], rfl, ⟨by show World.ownsRow _ _ _ _ _ 1 (mdC ⟨⟨#[107]⟩, s1, s2, ⟨#[]⟩, s3, s4⟩ ++ []); rw [List.append_nil]; exact HOM.out, fun m hm => by
      rw [List.mem_singleton.1 hm]
      exact ⟨of_decide_eq_true rfl, Hs1.out, Hs2.out, of_decide_eq_true rfl, Nat.le_trans Hs3.out (by decide), Hs4.out⟩⟩, of_decide_eq_true rfl, ⟨p + 4, by omega, by omega, HR.out.below (one_al _ _)⟩, HT.out.trans (Tch.below (one_al _ _))⟩
  have hL0' : ¬ ((L.length : Int) = 0) := by omega
  obtain ⟨g1, rfl⟩ : ∃ g1, a1 = some ⟨g1, 0, none⟩ := by
    rcases HM1.out.own.2 with ⟨hv, hn⟩ | ⟨g, cap', cur, hv, _⟩
    · omega
    · cases hv; exact ⟨_, rfl⟩
  have hg1 := owns_lt HM1.out.own (g := g1) rfl
  go_wp2_with fail
  refine (pick_any ρ p bs L.length w1 HR.out (by omega) (by omega) (by omega)).mono ?_
  rintro e w11 ⟨x, rfl, hx0, hx1, hr, ht⟩
  obtain ⟨i, rfl⟩ := Int.eq_ofNat_of_zero_le hx0
  have hi : i < L.length := by omega
  replace HM1 := hide (HM1.out.tch ht hlt)
  replace HR : Hid (Rd w11 ρ (p + 1) bs) := hr
  replace HT := hide (HT.out.trans ht)
  clear hr ht
  have hN := owns_news HM1.out.own (W' := w11) rfl
  have HMI : Hid (MdFew L[i]) := HM1.out.few _ (List.getElem_mem hi)
  have cc : ∀ j, j < 6 → w11.cell? ⟨g1, i * 6 + j, none⟩ = (mdC L[i])[j]? := fun j hj => by
    have h1 := flatC_at mdC 6 mdC_len L i j hi hj
    have h2 : (mdC L[i])[j]? = some ((mdC L[i])[j]'(by rw [mdC_len]; exact hj)) := List.getElem?_eq_getElem _
    have h3 := hN (i * 6 + j) _ (h1.trans h2)
    rw [h2, ← h3]
    congr 1
    unfold Addr.add
    split <;> simp_all
  have c0 := cc 0 (by omega)
  have c1' := cc 1 (by omega)
  have c2 := cc 2 (by omega)
  have c3 := cc 3 (by omega)
  have c4 := cc 4 (by omega)
  have c5 := cc 5 (by omega)
  simp only [mdC, List.getElem?_cons_zero, List.getElem?_cons_succ, Nat.add_zero] at c0 c1' c2 c3 c4 c5
  have hix : (i : Int) < (L.length : Int) := by omega
  have hg1' : g1 < w11.heap.size := (owns_lt HM1.out.own (g := g1) rfl).1
  clear cc hN
  obtain ⟨⟨kd, fd, wh, is, put, fr⟩, hm⟩ : ∃ m, L[i] = m := ⟨_, rfl⟩
  rw [hm] at c0 c1' c2 c3 c4 c5 HMI
  clear hm
  simp only [] at c0 c1' c2 c3 c4 c5
  go_wp2_with fail
  clear c0 c1' c2 c3 c4 c5
  have hba := one_al w11 (.cells #[.string kd, .string fd, .string wh, .string is, .string put, .string fr] 54)
  have BM : Hid (Box (w11.alloc (.cells #[.string kd, .string fd, .string wh, .string is, .string put, .string fr] 54)) w11.heap.size #[.string kd, .string fd, .string wh, .string is, .string put, .string fr]) := Box.new _ _ _ _ rfl
  generalize hWa : w11.alloc _ = w12 at *
  replace HM1 := hide (HM1.out.below hba)
  replace HR := hide (HR.out.below hba)
  replace HT := hide (HT.out.trans (Tch.below hba))
  have hzμ := HT.out.size
  have hwμ : w.heap.size ≤ w11.heap.size := by omega
  clear hWa hba
  have hgμ : g1 ≠ w11.heap.size := by omega
  generalize w11.heap.size = μ at *
  refine (pick_any ρ _ bs 8 w12 HR.out (by omega) (by decide) (by decide)).mono ?_
  rintro e w13 ⟨x8, rfl, hx80, hx81, hr, ht⟩
  replace HM1 := hide (HM1.out.tch ht hlt)
  replace BM := hide (ht.box BM.out (by omega))
  replace HR : Hid (Rd w13 ρ (p + 2) bs) := hr
  replace HT := hide (HT.out.trans ht)
  clear hr ht
  have h8 : x8 = 0 ∨ x8 = 1 ∨ x8 = 2 ∨ x8 = 3 ∨ x8 = 4 ∨ x8 = 5 ∨ x8 = 6 ∨ x8 = 7 := by omega
  rcases h8 with rfl | rfl | rfl | rfl | rfl | rfl | rfl | rfl
  ·
    have c : ∀ i, w13.cell? ⟨μ, i, none⟩ = #[.string kd, .string fd, .string wh, .string is, .string put, .string fr][i]? := BM.out.cell
    have cf := BM.out.free
    have cl := BM.out.lt
    go_wp2_with fail
    clear c cf cl
    refine (ofBuilt_any ρ _ bs _ _ 3 w13 HR.out (by omega) (by decide) rfl (by decide) (by decide)).mono ?_
    rintro e w14 ⟨sn, rfl, hs, hr, ht⟩
    have Hsn := hide hs
    replace HR : Hid (Rd w14 ρ (p + 3) bs) := hr
    replace HT := hide (HT.out.trans ht)
    replace HM1 := hide (HM1.out.tch ht hlt)
    replace BM := hide (ht.box BM.out (by omega))
    clear hr ht
    clear hs
    have c : ∀ i, w14.cell? ⟨μ, i, none⟩ = #[.string kd, .string fd, .string wh, .string is, .string put, .string fr][i]? := BM.out.cell
    have cf := BM.out.free
    have cl := BM.out.lt
    go_upto_region 25 with fail
    clear c cf cl
    generalize hW : World.setCell w14 ⟨μ, 0, none⟩ _ = w15
    replace BM : Hid (Box w15 μ #[.string sn, .string fd, .string wh, .string is, .string put, .string fr]) := by unfold Hid; rw [← hW]; exact put_cell BM.out 0 (by simp) _
    replace HM1 : Hid (MdR w.heap.size (.slice (some ⟨g1, 0, none⟩) L.length c1) L w15) := by unfold Hid; rw [← hW]; exact HM1.out.kept fun k hk => Below.heap_setCell _ _ _ k (own_ne hk hgμ)
    replace HR : Hid (Rd w15 ρ (p + 3) bs) := by unfold Hid; rw [← hW]; exact HR.out.other (by omega) _
    replace HT : Hid (Tch ρ w w15) := by unfold Hid; rw [← hW]; exact HT.out.other (by omega) _
    clear hW
    have HFW : Hid (MdFew ⟨sn, fd, wh, is, put, fr⟩) := ⟨Hsn.out, HMI.out.s1, HMI.out.s2, HMI.out.s3, HMI.out.s4, HMI.out.s5⟩
    have c : ∀ i, w15.cell? ⟨μ, i, none⟩ = #[.string sn, .string fd, .string wh, .string is, .string put, .string fr][i]? := BM.out.cell
    have cl := BM.out.lt
    have HMA := hide (HM1.out.below (one_al w15 (.cells #[.string sn, .string fd, .string wh, .string is, .string put, .string fr] 54)))
    have hzw := HT.out.size
    go_wp2_with (at_builtin; refine wpList_append_lies _ rfl (.tmp 96) (.tmp 98) 24 rfl w.heap.size 54 i1 (.agg #[.string ⟨#[]⟩, .string ⟨#[]⟩, .string ⟨#[]⟩, .string ⟨#[]⟩, .string ⟨#[]⟩, .string ⟨#[]⟩]) 6 96 Tryz.underlying24 HI.out.1 HI.out.2.1 HI.out.2.2.1 HI.out.2.2.2 rfl (by decide) _ _ _ rfl HMA.out.own ⟨w15.heap.size, 0, none⟩ 1 1 (mdC ⟨sn, fd, wh, is, put, fr⟩) rfl rfl (cells_newM _ _ (mdC ⟨sn, fd, wh, is, put, fr⟩) _ rfl) (mdC_one _) (by decide) (by unfold maxLen; omega) (by omega) (by simp; omega) _ rfl ?_; intro g cap1 w9 hown hgrow hat hltg)
    have hbg := owns_grown HMA.out.own hgrow (by simp; omega)
    go_ret
    exact ⟨_, L ++ [⟨sn, fd, wh, is, put, fr⟩], rfl, MdR.app (M := [⟨sn, fd, wh, is, put, fr⟩]) HM.out.few (fun m hm => by rw [List.mem_singleton.1 hm]; exact HFW.out) (by simpa [flatC] using hown), by simp; omega, ⟨p + 3, by omega, by omega, (HR.out.below (one_al _ _)).belowB hbg hlt⟩, (HT.out.trans (Tch.below (one_al _ _))).belowB hbg (Nat.le_refl _)⟩
  ·
    have c : ∀ i, w13.cell? ⟨μ, i, none⟩ = #[.string kd, .string fd, .string wh, .string is, .string put, .string fr][i]? := BM.out.cell
    have cf := BM.out.free
    have cl := BM.out.lt
    go_wp2_with fail
    clear c cf cl
    refine (ofBuilt_any ρ _ bs _ _ 4 w13 HR.out (by omega) (by decide) rfl (by decide) (by decide)).mono ?_
    rintro e w14 ⟨sn, rfl, hs, hr, ht⟩
    have Hsn := hide hs
    replace HR : Hid (Rd w14 ρ (p + 3) bs) := hr
    replace HT := hide (HT.out.trans ht)
    replace HM1 := hide (HM1.out.tch ht hlt)
    replace BM := hide (ht.box BM.out (by omega))
    clear hr ht
    clear hs
    have c : ∀ i, w14.cell? ⟨μ, i, none⟩ = #[.string kd, .string fd, .string wh, .string is, .string put, .string fr][i]? := BM.out.cell
    have cf := BM.out.free
    have cl := BM.out.lt
    go_upto_region 25 with fail
    clear c cf cl
    generalize hW : World.setCell w14 ⟨μ, 1, none⟩ _ = w15
    replace BM : Hid (Box w15 μ #[.string kd, .string sn, .string wh, .string is, .string put, .string fr]) := by unfold Hid; rw [← hW]; exact put_cell BM.out 1 (by simp) _
    replace HM1 : Hid (MdR w.heap.size (.slice (some ⟨g1, 0, none⟩) L.length c1) L w15) := by unfold Hid; rw [← hW]; exact HM1.out.kept fun k hk => Below.heap_setCell _ _ _ k (own_ne hk hgμ)
    replace HR : Hid (Rd w15 ρ (p + 3) bs) := by unfold Hid; rw [← hW]; exact HR.out.other (by omega) _
    replace HT : Hid (Tch ρ w w15) := by unfold Hid; rw [← hW]; exact HT.out.other (by omega) _
    clear hW
    have HFW : Hid (MdFew ⟨kd, sn, wh, is, put, fr⟩) := ⟨HMI.out.s0, Hsn.out, HMI.out.s2, HMI.out.s3, HMI.out.s4, HMI.out.s5⟩
    have c : ∀ i, w15.cell? ⟨μ, i, none⟩ = #[.string kd, .string sn, .string wh, .string is, .string put, .string fr][i]? := BM.out.cell
    have cl := BM.out.lt
    have HMA := hide (HM1.out.below (one_al w15 (.cells #[.string kd, .string sn, .string wh, .string is, .string put, .string fr] 54)))
    have hzw := HT.out.size
    go_wp2_with (at_builtin; refine wpList_append_lies _ rfl (.tmp 96) (.tmp 98) 24 rfl w.heap.size 54 i1 (.agg #[.string ⟨#[]⟩, .string ⟨#[]⟩, .string ⟨#[]⟩, .string ⟨#[]⟩, .string ⟨#[]⟩, .string ⟨#[]⟩]) 6 96 Tryz.underlying24 HI.out.1 HI.out.2.1 HI.out.2.2.1 HI.out.2.2.2 rfl (by decide) _ _ _ rfl HMA.out.own ⟨w15.heap.size, 0, none⟩ 1 1 (mdC ⟨kd, sn, wh, is, put, fr⟩) rfl rfl (cells_newM _ _ (mdC ⟨kd, sn, wh, is, put, fr⟩) _ rfl) (mdC_one _) (by decide) (by unfold maxLen; omega) (by omega) (by simp; omega) _ rfl ?_; intro g cap1 w9 hown hgrow hat hltg)
    have hbg := owns_grown HMA.out.own hgrow (by simp; omega)
    go_ret
    exact ⟨_, L ++ [⟨kd, sn, wh, is, put, fr⟩], rfl, MdR.app (M := [⟨kd, sn, wh, is, put, fr⟩]) HM.out.few (fun m hm => by rw [List.mem_singleton.1 hm]; exact HFW.out) (by simpa [flatC] using hown), by simp; omega, ⟨p + 3, by omega, by omega, (HR.out.below (one_al _ _)).belowB hbg hlt⟩, (HT.out.trans (Tch.below (one_al _ _))).belowB hbg (Nat.le_refl _)⟩
  ·
    have c : ∀ i, w13.cell? ⟨μ, i, none⟩ = #[.string kd, .string fd, .string wh, .string is, .string put, .string fr][i]? := BM.out.cell
    have cf := BM.out.free
    have cl := BM.out.lt
    go_wp2_with fail
    clear c cf cl
    refine (ofBuilt_any ρ _ bs _ _ 4 w13 HR.out (by omega) (by simp [isS]; exact ⟨by decide, by decide, by decide, HMI.out.s1⟩) rfl (by decide) (by decide)).mono ?_
    rintro e w14 ⟨sn, rfl, hs, hr, ht⟩
    have Hsn := hide hs
    replace HR : Hid (Rd w14 ρ (p + 3) bs) := hr
    replace HT := hide (HT.out.trans ht)
    replace HM1 := hide (HM1.out.tch ht hlt)
    replace BM := hide (ht.box BM.out (by omega))
    clear hr ht
    clear hs
    have c : ∀ i, w14.cell? ⟨μ, i, none⟩ = #[.string kd, .string fd, .string wh, .string is, .string put, .string fr][i]? := BM.out.cell
    have cf := BM.out.free
    have cl := BM.out.lt
    go_upto_region 25 with fail
    clear c cf cl
    generalize hW : World.setCell w14 ⟨μ, 2, none⟩ _ = w15
    replace BM : Hid (Box w15 μ #[.string kd, .string fd, .string sn, .string is, .string put, .string fr]) := by unfold Hid; rw [← hW]; exact put_cell BM.out 2 (by simp) _
    replace HM1 : Hid (MdR w.heap.size (.slice (some ⟨g1, 0, none⟩) L.length c1) L w15) := by unfold Hid; rw [← hW]; exact HM1.out.kept fun k hk => Below.heap_setCell _ _ _ k (own_ne hk hgμ)
    replace HR : Hid (Rd w15 ρ (p + 3) bs) := by unfold Hid; rw [← hW]; exact HR.out.other (by omega) _
    replace HT : Hid (Tch ρ w w15) := by unfold Hid; rw [← hW]; exact HT.out.other (by omega) _
    clear hW
    have HFW : Hid (MdFew ⟨kd, fd, sn, is, put, fr⟩) := ⟨HMI.out.s0, HMI.out.s1, Hsn.out, HMI.out.s3, HMI.out.s4, HMI.out.s5⟩
    have c : ∀ i, w15.cell? ⟨μ, i, none⟩ = #[.string kd, .string fd, .string sn, .string is, .string put, .string fr][i]? := BM.out.cell
    have cl := BM.out.lt
    have HMA := hide (HM1.out.below (one_al w15 (.cells #[.string kd, .string fd, .string sn, .string is, .string put, .string fr] 54)))
    have hzw := HT.out.size
    go_wp2_with (at_builtin; refine wpList_append_lies _ rfl (.tmp 96) (.tmp 98) 24 rfl w.heap.size 54 i1 (.agg #[.string ⟨#[]⟩, .string ⟨#[]⟩, .string ⟨#[]⟩, .string ⟨#[]⟩, .string ⟨#[]⟩, .string ⟨#[]⟩]) 6 96 Tryz.underlying24 HI.out.1 HI.out.2.1 HI.out.2.2.1 HI.out.2.2.2 rfl (by decide) _ _ _ rfl HMA.out.own ⟨w15.heap.size, 0, none⟩ 1 1 (mdC ⟨kd, fd, sn, is, put, fr⟩) rfl rfl (cells_newM _ _ (mdC ⟨kd, fd, sn, is, put, fr⟩) _ rfl) (mdC_one _) (by decide) (by unfold maxLen; omega) (by omega) (by simp; omega) _ rfl ?_; intro g cap1 w9 hown hgrow hat hltg)
    have hbg := owns_grown HMA.out.own hgrow (by simp; omega)
    go_ret
    exact ⟨_, L ++ [⟨kd, fd, sn, is, put, fr⟩], rfl, MdR.app (M := [⟨kd, fd, sn, is, put, fr⟩]) HM.out.few (fun m hm => by rw [List.mem_singleton.1 hm]; exact HFW.out) (by simpa [flatC] using hown), by simp; omega, ⟨p + 3, by omega, by omega, (HR.out.below (one_al _ _)).belowB hbg hlt⟩, (HT.out.trans (Tch.below (one_al _ _))).belowB hbg (Nat.le_refl _)⟩
  ·
    have c : ∀ i, w13.cell? ⟨μ, i, none⟩ = #[.string kd, .string fd, .string wh, .string is, .string put, .string fr][i]? := BM.out.cell
    have cf := BM.out.free
    have cl := BM.out.lt
    go_wp2_with fail
    clear c cf cl
    refine (ofBuilt_any ρ _ bs _ _ 2 w13 HR.out (by omega) (by decide) rfl (by decide) (by decide)).mono ?_
    rintro e w14 ⟨sn, rfl, hs, hr, ht⟩
    have Hsn := hide hs
    replace HR : Hid (Rd w14 ρ (p + 3) bs) := hr
    replace HT := hide (HT.out.trans ht)
    replace HM1 := hide (HM1.out.tch ht hlt)
    replace BM := hide (ht.box BM.out (by omega))
    clear hr ht
    clear hs
    have c : ∀ i, w14.cell? ⟨μ, i, none⟩ = #[.string kd, .string fd, .string wh, .string is, .string put, .string fr][i]? := BM.out.cell
    have cf := BM.out.free
    have cl := BM.out.lt
    go_upto_region 25 with fail
    clear c cf cl
    generalize hW : World.setCell w14 ⟨μ, 3, none⟩ _ = w15
    replace BM : Hid (Box w15 μ #[.string kd, .string fd, .string wh, .string sn, .string put, .string fr]) := by unfold Hid; rw [← hW]; exact put_cell BM.out 3 (by simp) _
    replace HM1 : Hid (MdR w.heap.size (.slice (some ⟨g1, 0, none⟩) L.length c1) L w15) := by unfold Hid; rw [← hW]; exact HM1.out.kept fun k hk => Below.heap_setCell _ _ _ k (own_ne hk hgμ)
    replace HR : Hid (Rd w15 ρ (p + 3) bs) := by unfold Hid; rw [← hW]; exact HR.out.other (by omega) _
    replace HT : Hid (Tch ρ w w15) := by unfold Hid; rw [← hW]; exact HT.out.other (by omega) _
    clear hW
    have HFW : Hid (MdFew ⟨kd, fd, wh, sn, put, fr⟩) := ⟨HMI.out.s0, HMI.out.s1, HMI.out.s2, Nat.le_trans Hsn.out (by decide), HMI.out.s4, HMI.out.s5⟩
    have c : ∀ i, w15.cell? ⟨μ, i, none⟩ = #[.string kd, .string fd, .string wh, .string sn, .string put, .string fr][i]? := BM.out.cell
    have cl := BM.out.lt
    have HMA := hide (HM1.out.below (one_al w15 (.cells #[.string kd, .string fd, .string wh, .string sn, .string put, .string fr] 54)))
    have hzw := HT.out.size
    go_wp2_with (at_builtin; refine wpList_append_lies _ rfl (.tmp 96) (.tmp 98) 24 rfl w.heap.size 54 i1 (.agg #[.string ⟨#[]⟩, .string ⟨#[]⟩, .string ⟨#[]⟩, .string ⟨#[]⟩, .string ⟨#[]⟩, .string ⟨#[]⟩]) 6 96 Tryz.underlying24 HI.out.1 HI.out.2.1 HI.out.2.2.1 HI.out.2.2.2 rfl (by decide) _ _ _ rfl HMA.out.own ⟨w15.heap.size, 0, none⟩ 1 1 (mdC ⟨kd, fd, wh, sn, put, fr⟩) rfl rfl (cells_newM _ _ (mdC ⟨kd, fd, wh, sn, put, fr⟩) _ rfl) (mdC_one _) (by decide) (by unfold maxLen; omega) (by omega) (by simp; omega) _ rfl ?_; intro g cap1 w9 hown hgrow hat hltg)
    have hbg := owns_grown HMA.out.own hgrow (by simp; omega)
    go_ret
    exact ⟨_, L ++ [⟨kd, fd, wh, sn, put, fr⟩], rfl, MdR.app (M := [⟨kd, fd, wh, sn, put, fr⟩]) HM.out.few (fun m hm => by rw [List.mem_singleton.1 hm]; exact HFW.out) (by simpa [flatC] using hown), by simp; omega, ⟨p + 3, by omega, by omega, (HR.out.below (one_al _ _)).belowB hbg hlt⟩, (HT.out.trans (Tch.below (one_al _ _))).belowB hbg (Nat.le_refl _)⟩
  ·
    have c : ∀ i, w13.cell? ⟨μ, i, none⟩ = #[.string kd, .string fd, .string wh, .string is, .string put, .string fr][i]? := BM.out.cell
    have cf := BM.out.free
    have cl := BM.out.lt
    go_wp2_with fail
    clear c cf cl
    refine (l1Odd_any ρ _ bs _ HR.out (by omega)).mono ?_
    rintro e w14 ⟨sn, rfl, hs, hr, ht⟩
    have Hsn := hide hs
    replace HR : Hid (Rd w14 ρ (p + 5) bs) := hr
    replace HT := hide (HT.out.trans ht)
    replace HM1 := hide (HM1.out.tch ht hlt)
    replace BM := hide (ht.box BM.out (by omega))
    clear hr ht
    clear hs
    have c : ∀ i, w14.cell? ⟨μ, i, none⟩ = #[.string kd, .string fd, .string wh, .string is, .string put, .string fr][i]? := BM.out.cell
    have cf := BM.out.free
    have cl := BM.out.lt
    go_upto_region 25 with fail
    clear c cf cl
    generalize hW : World.setCell w14 ⟨μ, 4, none⟩ _ = w15
    replace BM : Hid (Box w15 μ #[.string kd, .string fd, .string wh, .string is, .string sn, .string fr]) := by unfold Hid; rw [← hW]; exact put_cell BM.out 4 (by simp) _
    replace HM1 : Hid (MdR w.heap.size (.slice (some ⟨g1, 0, none⟩) L.length c1) L w15) := by unfold Hid; rw [← hW]; exact HM1.out.kept fun k hk => Below.heap_setCell _ _ _ k (own_ne hk hgμ)
    replace HR : Hid (Rd w15 ρ (p + 5) bs) := by unfold Hid; rw [← hW]; exact HR.out.other (by omega) _
    replace HT : Hid (Tch ρ w w15) := by unfold Hid; rw [← hW]; exact HT.out.other (by omega) _
    clear hW
    have HFW : Hid (MdFew ⟨kd, fd, wh, is, sn, fr⟩) := ⟨HMI.out.s0, HMI.out.s1, HMI.out.s2, HMI.out.s3, Nat.le_trans Hsn.out (by decide), HMI.out.s5⟩
    have c : ∀ i, w15.cell? ⟨μ, i, none⟩ = #[.string kd, .string fd, .string wh, .string is, .string sn, .string fr][i]? := BM.out.cell
    have cl := BM.out.lt
    have HMA := hide (HM1.out.below (one_al w15 (.cells #[.string kd, .string fd, .string wh, .string is, .string sn, .string fr] 54)))
    have hzw := HT.out.size
    go_wp2_with (at_builtin; refine wpList_append_lies _ rfl (.tmp 96) (.tmp 98) 24 rfl w.heap.size 54 i1 (.agg #[.string ⟨#[]⟩, .string ⟨#[]⟩, .string ⟨#[]⟩, .string ⟨#[]⟩, .string ⟨#[]⟩, .string ⟨#[]⟩]) 6 96 Tryz.underlying24 HI.out.1 HI.out.2.1 HI.out.2.2.1 HI.out.2.2.2 rfl (by decide) _ _ _ rfl HMA.out.own ⟨w15.heap.size, 0, none⟩ 1 1 (mdC ⟨kd, fd, wh, is, sn, fr⟩) rfl rfl (cells_newM _ _ (mdC ⟨kd, fd, wh, is, sn, fr⟩) _ rfl) (mdC_one _) (by decide) (by unfold maxLen; omega) (by omega) (by simp; omega) _ rfl ?_; intro g cap1 w9 hown hgrow hat hltg)
    have hbg := owns_grown HMA.out.own hgrow (by simp; omega)
    go_ret
    exact ⟨_, L ++ [⟨kd, fd, wh, is, sn, fr⟩], rfl, MdR.app (M := [⟨kd, fd, wh, is, sn, fr⟩]) HM.out.few (fun m hm => by rw [List.mem_singleton.1 hm]; exact HFW.out) (by simpa [flatC] using hown), by simp; omega, ⟨p + 5, by omega, by omega, (HR.out.below (one_al _ _)).belowB hbg hlt⟩, (HT.out.trans (Tch.below (one_al _ _))).belowB hbg (Nat.le_refl _)⟩
  ·
    have c : ∀ i, w13.cell? ⟨μ, i, none⟩ = #[.string kd, .string fd, .string wh, .string is, .string put, .string fr][i]? := BM.out.cell
    have cf := BM.out.free
    have cl := BM.out.lt
    go_wp2_with fail
    clear c cf cl
    refine (ofBuilt_any ρ _ bs _ _ 4 w13 HR.out (by omega) (by simp [isS]; exact ⟨by decide, by decide, by decide, HMI.out.s1⟩) rfl (by decide) (by decide)).mono ?_
    rintro e w14 ⟨sn, rfl, hs, hr, ht⟩
    have Hsn := hide hs
    replace HR : Hid (Rd w14 ρ (p + 3) bs) := hr
    replace HT := hide (HT.out.trans ht)
    replace HM1 := hide (HM1.out.tch ht hlt)
    replace BM := hide (ht.box BM.out (by omega))
    clear hr ht
    clear hs
    have c : ∀ i, w14.cell? ⟨μ, i, none⟩ = #[.string kd, .string fd, .string wh, .string is, .string put, .string fr][i]? := BM.out.cell
    have cf := BM.out.free
    have cl := BM.out.lt
    go_upto_region 25 with fail
    clear c cf cl
    generalize hW : World.setCell w14 ⟨μ, 5, none⟩ _ = w15
    replace BM : Hid (Box w15 μ #[.string kd, .string fd, .string wh, .string is, .string put, .string sn]) := by unfold Hid; rw [← hW]; exact put_cell BM.out 5 (by simp) _
    replace HM1 : Hid (MdR w.heap.size (.slice (some ⟨g1, 0, none⟩) L.length c1) L w15) := by unfold Hid; rw [← hW]; exact HM1.out.kept fun k hk => Below.heap_setCell _ _ _ k (own_ne hk hgμ)
    replace HR : Hid (Rd w15 ρ (p + 3) bs) := by unfold Hid; rw [← hW]; exact HR.out.other (by omega) _
    replace HT : Hid (Tch ρ w w15) := by unfold Hid; rw [← hW]; exact HT.out.other (by omega) _
    clear hW
    have HFW : Hid (MdFew ⟨kd, fd, wh, is, put, sn⟩) := ⟨HMI.out.s0, HMI.out.s1, HMI.out.s2, HMI.out.s3, HMI.out.s4, Hsn.out⟩
    have c : ∀ i, w15.cell? ⟨μ, i, none⟩ = #[.string kd, .string fd, .string wh, .string is, .string put, .string sn][i]? := BM.out.cell
    have cl := BM.out.lt
    have HMA := hide (HM1.out.below (one_al w15 (.cells #[.string kd, .string fd, .string wh, .string is, .string put, .string sn] 54)))
    have hzw := HT.out.size
    go_wp2_with (at_builtin; refine wpList_append_lies _ rfl (.tmp 96) (.tmp 98) 24 rfl w.heap.size 54 i1 (.agg #[.string ⟨#[]⟩, .string ⟨#[]⟩, .string ⟨#[]⟩, .string ⟨#[]⟩, .string ⟨#[]⟩, .string ⟨#[]⟩]) 6 96 Tryz.underlying24 HI.out.1 HI.out.2.1 HI.out.2.2.1 HI.out.2.2.2 rfl (by decide) _ _ _ rfl HMA.out.own ⟨w15.heap.size, 0, none⟩ 1 1 (mdC ⟨kd, fd, wh, is, put, sn⟩) rfl rfl (cells_newM _ _ (mdC ⟨kd, fd, wh, is, put, sn⟩) _ rfl) (mdC_one _) (by decide) (by unfold maxLen; omega) (by omega) (by simp; omega) _ rfl ?_; intro g cap1 w9 hown hgrow hat hltg)
    have hbg := owns_grown HMA.out.own hgrow (by simp; omega)
    go_ret
    exact ⟨_, L ++ [⟨kd, fd, wh, is, put, sn⟩], rfl, MdR.app (M := [⟨kd, fd, wh, is, put, sn⟩]) HM.out.few (fun m hm => by rw [List.mem_singleton.1 hm]; exact HFW.out) (by simpa [flatC] using hown), by simp; omega, ⟨p + 3, by omega, by omega, (HR.out.below (one_al _ _)).belowB hbg hlt⟩, (HT.out.trans (Tch.below (one_al _ _))).belowB hbg (Nat.le_refl _)⟩
  ·
    have c : ∀ i, w13.cell? ⟨μ, i, none⟩ = #[.string kd, .string fd, .string wh, .string is, .string put, .string fr][i]? := BM.out.cell
    have cf := BM.out.free
    have cl := BM.out.lt
    go_upto_region 24 with fail
    clear c cf cl
    generalize hW : World.setCell w13 ⟨μ, 2, none⟩ _ = w14
    replace BM : Hid (Box w14 μ #[.string kd, .string fd, .string fd, .string is, .string put, .string fr]) := by unfold Hid; rw [← hW]; exact put_cell BM.out 2 (by simp) _
    replace HM1 : Hid (MdR w.heap.size (.slice (some ⟨g1, 0, none⟩) L.length c1) L w14) := by unfold Hid; rw [← hW]; exact HM1.out.kept fun k hk => Below.heap_setCell _ _ _ k (own_ne hk hgμ)
    replace HR : Hid (Rd w14 ρ (p + 2) bs) := by unfold Hid; rw [← hW]; exact HR.out.other (by omega) _
    replace HT : Hid (Tch ρ w w14) := by unfold Hid; rw [← hW]; exact HT.out.other (by omega) _
    clear hW
    have c : ∀ i, w14.cell? ⟨μ, i, none⟩ = #[.string kd, .string fd, .string fd, .string is, .string put, .string fr][i]? := BM.out.cell
    have cf := BM.out.free
    have cl := BM.out.lt
    go_upto_region 25 with fail
    clear c cf cl
    generalize hW : World.setCell w14 ⟨μ, 1, none⟩ _ = w15
    replace BM : Hid (Box w15 μ #[.string kd, .string wh, .string fd, .string is, .string put, .string fr]) := by unfold Hid; rw [← hW]; exact put_cell BM.out 1 (by simp) _
    replace HM1 : Hid (MdR w.heap.size (.slice (some ⟨g1, 0, none⟩) L.length c1) L w15) := by unfold Hid; rw [← hW]; exact HM1.out.kept fun k hk => Below.heap_setCell _ _ _ k (own_ne hk hgμ)
    replace HR : Hid (Rd w15 ρ (p + 2) bs) := by unfold Hid; rw [← hW]; exact HR.out.other (by omega) _
    replace HT : Hid (Tch ρ w w15) := by unfold Hid; rw [← hW]; exact HT.out.other (by omega) _
    clear hW
    have HFW : Hid (MdFew ⟨kd, wh, fd, is, put, fr⟩) := ⟨HMI.out.s0, HMI.out.s2, HMI.out.s1, HMI.out.s3, HMI.out.s4, HMI.out.s5⟩
    have c : ∀ i, w15.cell? ⟨μ, i, none⟩ = #[.string kd, .string wh, .string fd, .string is, .string put, .string fr][i]? := BM.out.cell
    have cl := BM.out.lt
    have HMA := hide (HM1.out.below (one_al w15 (.cells #[.string kd, .string wh, .string fd, .string is, .string put, .string fr] 54)))
    have hzw := HT.out.size
    go_wp2_with (at_builtin; refine wpList_append_lies _ rfl (.tmp 96) (.tmp 98) 24 rfl w.heap.size 54 i1 (.agg #[.string ⟨#[]⟩, .string ⟨#[]⟩, .string ⟨#[]⟩, .string ⟨#[]⟩, .string ⟨#[]⟩, .string ⟨#[]⟩]) 6 96 Tryz.underlying24 HI.out.1 HI.out.2.1 HI.out.2.2.1 HI.out.2.2.2 rfl (by decide) _ _ _ rfl HMA.out.own ⟨w15.heap.size, 0, none⟩ 1 1 (mdC ⟨kd, wh, fd, is, put, fr⟩) rfl rfl (cells_newM _ _ (mdC ⟨kd, wh, fd, is, put, fr⟩) _ rfl) (mdC_one _) (by decide) (by unfold maxLen; omega) (by omega) (by simp; omega) _ rfl ?_; intro g cap1 w9 hown hgrow hat hltg)
    have hbg := owns_grown HMA.out.own hgrow (by simp; omega)
    go_ret
    exact ⟨_, L ++ [⟨kd, wh, fd, is, put, fr⟩], rfl, MdR.app (M := [⟨kd, wh, fd, is, put, fr⟩]) HM.out.few (fun m hm => by rw [List.mem_singleton.1 hm]; exact HFW.out) (by simpa [flatC] using hown), by simp; omega, ⟨p + 2, by omega, by omega, (HR.out.below (one_al _ _)).belowB hbg hlt⟩, (HT.out.trans (Tch.below (one_al _ _))).belowB hbg (Nat.le_refl _)⟩
  ·
    go_wp2
    have hgo := owns_lt HM1.out.own (g := g1) rfl
    go_loopw [5] (fun v wr => ∃ (q : Nat) (L' : List Md), MdR w.heap.size v L' wr ∧ L'.length ≤ 21 ∧ Box wr μ #[.string kd, .string fd, .string wh, .string is, .string put, .string fr] ∧ Rd wr ρ q bs ∧ p + 2 ≤ q ∧ q ≤ p + 2 + L'.length ∧ Tch ρ w wr ∧ ∀ k, v.ownBlock = some k → k ≠ μ) (fun v _ => 40 - sliceN v)
    case atStart => exact ⟨p + 2, L, HM1.out, by omega, BM.out, HR.out, Nat.le_refl _, by omega, HT.out, fun k hk => own_ne hk hgμ⟩
    case round =>
      obtain ⟨q, L', hM', hL', hB', hR', hq1, hq2, hT', hnb⟩ := hrel
      have HMx := hide hM'
      have HBx := hide hB'
      have HRx := hide hR'
      have HTx := hide hT'
      have HNx := hide hnb
      obtain ⟨va, vc, rfl⟩ := hM'.form
      clear hM' hB' hR' hT' hnb
      go_wp2_with fail
      refine (pick_any ρ q bs 2 wr HRx.out (by omega) (by decide) (by decide)).mono ?_
      rintro e wa ⟨x9, rfl, hx90, hx91, hr, ht⟩
      have hw9 : wrap64 (12 + x9) = 12 + x9 := by unfold wrap64; omega
      replace HMx := hide (HMx.out.tch ht hlt)
      replace HBx := hide (ht.box HBx.out (by omega))
      replace HRx := hide hr
      replace HTx := hide (HTx.out.trans ht)
      clear hr ht
      by_cases hlt9 : (L'.length : Int) < 12 + x9
      · have c : ∀ i, wa.cell? ⟨μ, i, none⟩ = #[.string kd, .string fd, .string wh, .string is, .string put, .string fr][i]? := HBx.out.cell
        have cl := HBx.out.lt
        have HMA := hide (HMx.out.below (one_al wa (.cells #[.string kd, .string fd, .string wh, .string is, .string put, .string fr] 54)))
        have hzw := HTx.out.size
        go_wp2_with (at_builtin; refine wpList_append_lies _ rfl (.tmp 43) (.tmp 45) 24 rfl w.heap.size 54 i1 (.agg #[.string ⟨#[]⟩, .string ⟨#[]⟩, .string ⟨#[]⟩, .string ⟨#[]⟩, .string ⟨#[]⟩, .string ⟨#[]⟩]) 6 96 Tryz.underlying24 HI.out.1 HI.out.2.1 HI.out.2.2.1 HI.out.2.2.2 rfl (by decide) _ _ _ rfl HMA.out.own ⟨wa.heap.size, 0, none⟩ 1 1 (mdC ⟨kd, fd, wh, is, put, fr⟩) rfl rfl (cells_newM _ _ (mdC ⟨kd, fd, wh, is, put, fr⟩) _ rfl) (mdC_one _) (by decide) (by unfold maxLen; omega) (by omega) (by simp; omega) _ rfl ?_; intro g cap1 w9 hown hgrow hat hltg)
        have hbg := owns_grown HMA.out.own hgrow (by simp; omega)
        have HMN : Hid (MdR w.heap.size (.slice (some ⟨g, 0, none⟩) (L'.length + 1) cap1) (L' ++ [⟨kd, fd, wh, is, put, fr⟩]) w9) := MdR.app (M := [⟨kd, fd, wh, is, put, fr⟩]) HMx.out.few (fun m hm => by rw [List.mem_singleton.1 hm]; exact HMI.out) (by simpa [flatC] using hown)
        have HBN : Hid (Box w9 μ #[.string kd, .string fd, .string wh, .string is, .string put, .string fr]) := by
          have hb0 := HBx.out.on (one_al wa (.cells #[.string kd, .string fd, .string wh, .string is, .string put, .string fr] 54))
          have hblk : w9.heap[μ]? = (wa.alloc (.cells #[.string kd, .string fd, .string wh, .string is, .string put, .string fr] 54)).heap[μ]? := hgrow.block μ hb0.lt (fun e => HNx.out μ e.symm rfl)
          exact ⟨Nat.lt_of_lt_of_le hb0.lt hgrow.size, fun i => (World.cell?_of_block (a := ⟨μ, i, none⟩) hblk).trans (hb0.cell i), fun i => (World.frozen?_of_block (a := ⟨μ, i, none⟩) hblk).trans (hb0.free i)⟩
        have HNN : Hid (∀ k, (Value.slice (some ⟨g, 0, none⟩) (L'.length + 1) cap1).ownBlock = some k → k ≠ μ) := fun k hk => by
          have e : g = k := by simpa [Value.ownBlock] using hk
          subst e
          rcases hat with hat | hat
          · exact HNx.out g hat
          · have h2 := HBx.out.lt
            have h3 : g = wa.heap.size + 1 := by simpa using hat
            omega
        have HRN : Hid (Rd w9 ρ (q + 1) bs) := (HRx.out.below (one_al _ _)).belowB hbg hlt
        have HTN : Hid (Tch ρ w w9) := (HTx.out.trans (Tch.below (one_al _ _))).belowB hbg (Nat.le_refl _)
        clear hown hgrow hat hbg c cl
        go_roundw
        case rel => exact ⟨q + 1, L' ++ [⟨kd, fd, wh, is, put, fr⟩], HMN.out, by simp; omega, HBN.out, HRN.out, by omega, by simp; omega, HTN.out, HNN.out⟩
        case measure => simp [sliceN]; omega
      · go_wp2
        go_ret
        exact ⟨_, L', rfl, HMx.out, by omega, ⟨q + 1, by omega, by omega, HRx.out⟩, HTx.out⟩
end Go.Proofs.YtjkkbkdpoebfaaaGreat
