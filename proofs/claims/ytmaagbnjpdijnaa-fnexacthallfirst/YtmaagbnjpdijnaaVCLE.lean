import Derived.Test.YtmaagbnjpdijnaaVOXt
import Derived.Deep.AppendLies
import Derived.Lib.LazyBuf
import Derived.Test.YtmaagbnjpdijnaaVBT
import Derived.Test.YtmaagbnjpdijnaaVCC
import Derived.Test.YtmaagbnjpdijnaaVTA
import Derived.Test.YtmaagbnjpdijnaaVOWX
import Derived.Test.YtmaagbnjpdijnaaVA1
import Derived.Test.YtmaagbnjpdijnaaVDA
import Derived.Test.YtmaagbnjpdijnaaVBOG
namespace Go.Proofs.Ytmaagbnjpdijnaa
open Go.RowKit Go.Deep

theorem ownsB_lt {base : Nat} {e : TypeId} {sz n : Nat} {W : World} {v : Value} {cs : List Value} (h : W.ownsRow base e sz v n cs) {g : Nat} (hg : v.ownBlock = some g) : g < W.heap.size ∧ base ≤ g ∧ ∀ i, W.frozen? ⟨g, i, none⟩ = false := by
  rcases h.2 with ⟨hv, _⟩ | ⟨g', cap, cur, hv, h1, h2, _⟩
  · rw [hv] at hg; cases hg
  · rw [hv] at hg
    have e : g' = g := by simpa [Value.ownBlock] using hg
    subst e
    refine ⟨?_, h1, fun i => by simp [World.frozen?, h2]⟩
    rcases Nat.lt_or_ge g' W.heap.size with h | h
    · exact h
    · rw [Array.getElem?_eq_none h] at h2; cases h2
theorem ownsB_made {base : Nat} (W : World) (g : Nat) (e : TypeId) (sz : Nat) (hg : W.heap.size = g) (hb : base ≤ g) : (W.alloc (.cells #[] e)).ownsRow base e sz (.slice (some ⟨g, 0, none⟩) 0 0) 0 [] := by
  subst hg
  exact World.ownsRow_made (base := base) (e := e) (size := sz) W #[] 0 hb (Nat.zero_le _) (by simp)
theorem ownsB_grown {base : Nat} {e : TypeId} {sz n : Nat} {W w' : World} {v : Value} {cs : List Value} (h : W.ownsRow base e sz v n cs) (hg : W.grownBy w' v.ownBlock) (hb : base ≤ W.heap.size) : Below base W w' := by
  have hlt := fun g hg => ownsB_lt h (g := g) hg
  exact ⟨hg.os, hg.tape, hg.output, hg.size, fun k hk => hg.block k (by omega) fun e => by have := (hlt k e.symm).2.1; omega⟩
def ivO (L : List Int) : List Value := L.map (Value.int .i64)
theorem ivO_oneCell (L : List Int) : ∀ u ∈ ivO L, u.oneCell' = true := fun u hu => by
  obtain ⟨x, _, rfl⟩ := List.mem_map.1 hu
  rfl
theorem IntsIn.newsO {lo : Nat} {w W : World} {ad : Addr} {cap : Nat} {L : List Int} (h : IntsIn lo w (.slice (some ad) L.length cap) L) (hb : Below w.heap.size w W) : ∀ j u, (ivO L)[j]? = some u → W.cell? (ad.add j) = some u := by
  intro j u hj
  have hl : j < L.length := by
    rcases Nat.lt_or_ge j L.length with h | h
    · exact h
    · rw [List.getElem?_eq_none (by unfold ivO; rw [List.length_map]; exact h)] at hj; cases hj
  obtain ⟨b, off, e, hlt, hc⟩ := h.full' (by omega)
  injection e with e
  subst e
  rw [Go.WideShapes.add_plain, hb.cell (p := ⟨b, off + j, none⟩) hlt, hc j hl, ← hj]
  unfold ivO
  rw [List.getElem?_map, List.getElem?_eq_getElem hl]
  rfl
theorem ownsB_ints {base : Nat} {W : World} {v : Value} {L : List Int} (h : W.ownsRow base 3 1 v L.length (ivO L)) : IntsOwn base W.heap.size W v L := by
  by_cases hL : L = []
  · subst hL
    rcases h.2 with ⟨hv, _⟩ | ⟨g, cap, cur, hv, _⟩
    · exact Or.inl ⟨_, _, hv, rfl⟩
    · exact Or.inl ⟨_, _, hv, rfl⟩
  · rcases h.2 with ⟨_, hn⟩ | ⟨g, cap, cur, hv, h1, h2, h3, h4, _⟩
    · exact absurd (List.length_eq_zero_iff.1 hn) hL
    · have hl := ownsB_lt h (g := g) (by rw [hv]; rfl)
      have ho := h
      subst hv
      refine Or.inr ⟨g, 0, cap, rfl, hL, Nat.le_trans h3 h4, hl.1, fun i hi => ?_, hl.2.1, hl.1, fun i => hl.2.2 _⟩
      rw [Nat.zero_add, ho.cellAt i (by omega)]
      unfold ivO
      rw [List.getElem?_map, List.getElem?_eq_getElem hi]
      rfl

set_option maxRecDepth 20000 in
set_option maxHeartbeats 4000000 in
theorem cloneInts_any (lo : Nat) (v : Value) (L : List Int) (w : World) (hv : IntsIn lo w v L) (hn : L.length ≤ 1048576) :
    Calls Try.prog 85 #[v] w fun e w' => ∃ v', e = .returned v' ∧ Below w.heap.size w w' ∧ IntsOwn w.heap.size w'.heap.size w' v' L := by
  have hnil := fun W a n c => Lib.run_eql_slice_nil (P := Try.prog) W 87 3 a n c 0 0 Try.underlying87
  obtain ⟨i0, hi, hz0, hz1, hz2⟩ := info_parts Try.info3
  have HI := hide (And.intro hi (And.intro hz0 (And.intro hz1 hz2)))
  clear hi hz0 hz1 hz2
  have HV := hide hv
  obtain ⟨a, cap, rfl⟩ := hv.form
  clear hv
  cases a with
  | none =>
    have hL : L = [] := by
      rcases HV.out with ⟨_, _, _, h⟩ | ⟨_, _, _, h, _⟩
      · exact h
      · injection h with h; cases h
    subst hL
    go_enter Try.func85, Try.ntmps85
    go_wp2
    go_ret
    exact ⟨_, rfl, Below.refl _ _, Or.inl ⟨_, _, rfl, rfl⟩⟩
  | some ad =>
    go_enter Try.func85, Try.ntmps85
    go_wp2_with (at_builtin; refine wpList_append_own_at _ rfl (.tmp 5) (.tmp 6) 87 rfl w.heap.size 3 i0 (.int .i64 0) 1 8 Try.underlying87 HI.out.1 HI.out.2.1 HI.out.2.2.1 HI.out.2.2.2 rfl (by decide) _ 0 [] rfl (ownsB_made _ _ 3 1 rfl (Nat.le_refl _)) ad L.length cap (ivO L) rfl (by unfold ivO; rw [List.length_map, Nat.mul_one]) (HV.out.newsO (one_al _ _)) (ivO_oneCell _) (by unfold maxLen; omega) (by omega) (by simp) ?_; intro v' w4 hown4 hgrow4 hnil4 hat4)
    rw [Nat.zero_add, List.nil_append] at hown4
    have HO : Hid (IntsOwn w.heap.size w4.heap.size w4 v' L) := ownsB_ints hown4
    have HB : Hid (Below w.heap.size w w4) := (one_al _ _).trans (ownsB_grown (ownsB_made w w.heap.size 3 1 rfl (Nat.le_refl _)) hgrow4 (by simp))
    clear hown4 hgrow4 hnil4 hat4
    go_wp2
    go_ret
    exact ⟨_, rfl, HB.out, HO.out⟩

def Levs : List Le → List Value
  | [] => []
  | x :: L => .string x.tm :: .string x.re :: .int .i64 x.mo :: .int .i64 x.fr :: Levs L
theorem Levs_len : ∀ L : List Le, (Levs L).length = L.length * 4
  | [] => rfl
  | x :: L => by simp only [Levs, List.length_cons, Levs_len L]; omega
theorem Levs_at : ∀ (L : List Le) (i : Nat) (h : i < L.length), (Levs L)[i * 4]? = some (.string L[i].tm) ∧ (Levs L)[i * 4 + 1]? = some (.string L[i].re) ∧ (Levs L)[i * 4 + 2]? = some (.int .i64 L[i].mo) ∧ (Levs L)[i * 4 + 3]? = some (.int .i64 L[i].fr)
  | [], i, h => by simp at h
  | x :: L, 0, _ => ⟨rfl, rfl, rfl, rfl⟩
  | x :: L, i + 1, h => by
    have := Levs_at L i (by simpa using h)
    rw [show (i + 1) * 4 = i * 4 + 1 + 1 + 1 + 1 by omega]
    exact this
theorem Levs_one : ∀ (L : List Le), ∀ u ∈ Levs L, u.oneCell' = true
  | [], u, hu => by simp [Levs] at hu
  | x :: L, u, hu => by
    simp only [Levs, List.mem_cons] at hu
    rcases hu with rfl | rfl | rfl | rfl | hu
    · rfl
    · rfl
    · rfl
    · rfl
    · exact Levs_one L u hu
theorem Levs_news {lo : Nat} {w W : World} {ad : Addr} {cap : Nat} {L : List Le} (h : LesAt lo w (.slice (some ad) L.length cap) L) (hb : Below w.heap.size w W) : ∀ j u, (Levs L)[j]? = some u → W.cell? (ad.add j) = some u := by
  intro j u hj
  have hl : j < L.length * 4 := by
    rcases Nat.lt_or_ge j (L.length * 4) with h | h
    · exact h
    · rw [List.getElem?_eq_none (by rw [Levs_len]; exact h)] at hj; cases hj
  obtain ⟨b, off, e, hlt, -, hc⟩ := h.full' (by omega)
  injection e with e
  subst e
  have hi : j / 4 < L.length := by omega
  obtain ⟨_, hcc⟩ := hc (j / 4) hi
  obtain ⟨h0, h1, h2, h3⟩ := hcc
  obtain ⟨v0, v1, v2, v3⟩ := Levs_at L (j / 4) hi
  rw [Go.WideShapes.add_plain, hb.cell (p := ⟨b, off + j, none⟩) hlt]
  have hm : j = j / 4 * 4 ∨ j = j / 4 * 4 + 1 ∨ j = j / 4 * 4 + 2 ∨ j = j / 4 * 4 + 3 := by omega
  rcases hm with hm | hm | hm | hm
  · have e1 : (Levs L)[j]? = (Levs L)[j / 4 * 4]? := congrArg (fun q => (Levs L)[q]?) hm
    have e2 : w.cell? ⟨b, off + j, none⟩ = w.cell? ⟨b, off + j / 4 * 4, none⟩ := congrArg (fun q => w.cell? ⟨b, q, none⟩) (by omega)
    exact e2.trans (h0.trans (v0.symm.trans (e1.symm.trans hj)))
  · have e1 : (Levs L)[j]? = (Levs L)[j / 4 * 4 + 1]? := congrArg (fun q => (Levs L)[q]?) hm
    have e2 : w.cell? ⟨b, off + j, none⟩ = w.cell? ⟨b, off + j / 4 * 4 + 1, none⟩ := congrArg (fun q => w.cell? ⟨b, q, none⟩) (by omega)
    exact e2.trans (h1.trans (v1.symm.trans (e1.symm.trans hj)))
  · have e1 : (Levs L)[j]? = (Levs L)[j / 4 * 4 + 2]? := congrArg (fun q => (Levs L)[q]?) hm
    have e2 : w.cell? ⟨b, off + j, none⟩ = w.cell? ⟨b, off + j / 4 * 4 + 2, none⟩ := congrArg (fun q => w.cell? ⟨b, q, none⟩) (by omega)
    exact e2.trans (h2.trans (v2.symm.trans (e1.symm.trans hj)))
  · have e1 : (Levs L)[j]? = (Levs L)[j / 4 * 4 + 3]? := congrArg (fun q => (Levs L)[q]?) hm
    have e2 : w.cell? ⟨b, off + j, none⟩ = w.cell? ⟨b, off + j / 4 * 4 + 3, none⟩ := congrArg (fun q => w.cell? ⟨b, q, none⟩) (by omega)
    exact e2.trans (h3.trans (v3.symm.trans (e1.symm.trans hj)))
theorem Levs_own {base : Nat} {W : World} {v : Value} {L : List Le} (h : W.ownsRow base 155 4 v L.length (Levs L)) (hz : ∀ i (hi : i < L.length), LeSize L[i]) : LesOwn base W.heap.size W v L := by
  by_cases hL : L = []
  · subst hL
    rcases h.2 with ⟨hv, _⟩ | ⟨g, cap, cur, hv, _⟩
    · exact Or.inl ⟨_, _, hv, rfl⟩
    · exact Or.inl ⟨_, _, hv, rfl⟩
  · rcases h.2 with ⟨_, hn⟩ | ⟨g, cap, cur, hv, h1, h2, h3, h4, _⟩
    · exact absurd (List.length_eq_zero_iff.1 hn) hL
    · have hl := ownsB_lt h (g := g) (by rw [hv]; rfl)
      have ho := h
      have h0 : 0 < L.length := List.length_pos_iff.2 hL
      subst hv
      refine Or.inr ⟨g, 0, cap, fun _ => g + 1, fun i => if h : i < L.length then L[i] else L[0], rfl, hL, Nat.le_trans h3 h4, h3, fun i hi => by simp [hi], hl.1, hl.2.1, Nat.lt_succ_self _, hl.1, fun _ _ => Nat.le_refl _, hl.1, hl.2.2, fun i hi => ?_⟩
      obtain ⟨v0, v1, v2, v3⟩ := Levs_at L i hi
      simp only [hi, dif_pos]
      have ce : ∀ j, j < 4 → W.cell? ⟨g, 0 + i * 4 + j, none⟩ = (Levs L)[i * 4 + j]? := fun j hj => by rw [Nat.zero_add]; exact ho.cellAt _ (by omega)
      exact ⟨hz i hi, ⟨(ce 0 (by omega)).trans v0, (ce 1 (by omega)).trans v1, (ce 2 (by omega)).trans v2, (ce 3 (by omega)).trans v3⟩⟩

def Puvs : List Pu → List Value
  | [] => []
  | x :: L => .string x.dr :: .string x.tm :: .string x.re :: .int .i64 x.am :: .int .i64 x.un :: Puvs L
theorem Puvs_len : ∀ L : List Pu, (Puvs L).length = L.length * 5
  | [] => rfl
  | x :: L => by simp only [Puvs, List.length_cons, Puvs_len L]; omega
theorem Puvs_at : ∀ (L : List Pu) (i : Nat) (h : i < L.length), (Puvs L)[i * 5]? = some (.string L[i].dr) ∧ (Puvs L)[i * 5 + 1]? = some (.string L[i].tm) ∧ (Puvs L)[i * 5 + 2]? = some (.string L[i].re) ∧ (Puvs L)[i * 5 + 3]? = some (.int .i64 L[i].am) ∧ (Puvs L)[i * 5 + 4]? = some (.int .i64 L[i].un)
  | [], i, h => by simp at h
  | x :: L, 0, _ => ⟨rfl, rfl, rfl, rfl, rfl⟩
  | x :: L, i + 1, h => by
    have := Puvs_at L i (by simpa using h)
    rw [show (i + 1) * 5 = i * 5 + 1 + 1 + 1 + 1 + 1 by omega]
    exact this
theorem Puvs_one : ∀ (L : List Pu), ∀ u ∈ Puvs L, u.oneCell' = true
  | [], u, hu => by simp [Puvs] at hu
  | x :: L, u, hu => by
    simp only [Puvs, List.mem_cons] at hu
    rcases hu with rfl | rfl | rfl | rfl | rfl | hu
    · rfl
    · rfl
    · rfl
    · rfl
    · rfl
    · exact Puvs_one L u hu
theorem Puvs_news {lo : Nat} {w W : World} {ad : Addr} {cap : Nat} {L : List Pu} (h : PusAt lo w (.slice (some ad) L.length cap) L) (hb : Below w.heap.size w W) : ∀ j u, (Puvs L)[j]? = some u → W.cell? (ad.add j) = some u := by
  intro j u hj
  have hl : j < L.length * 5 := by
    rcases Nat.lt_or_ge j (L.length * 5) with h | h
    · exact h
    · rw [List.getElem?_eq_none (by rw [Puvs_len]; exact h)] at hj; cases hj
  obtain ⟨b, off, e, hlt, -, hc⟩ := h.full' (by omega)
  injection e with e
  subst e
  have hi : j / 5 < L.length := by omega
  obtain ⟨_, hcc⟩ := hc (j / 5) hi
  obtain ⟨h0, h1, h2, h3, h4⟩ := hcc
  obtain ⟨v0, v1, v2, v3, v4⟩ := Puvs_at L (j / 5) hi
  rw [Go.WideShapes.add_plain, hb.cell (p := ⟨b, off + j, none⟩) hlt]
  have hm : j = j / 5 * 5 ∨ j = j / 5 * 5 + 1 ∨ j = j / 5 * 5 + 2 ∨ j = j / 5 * 5 + 3 ∨ j = j / 5 * 5 + 4 := by omega
  rcases hm with hm | hm | hm | hm | hm
  · have e1 : (Puvs L)[j]? = (Puvs L)[j / 5 * 5]? := congrArg (fun q => (Puvs L)[q]?) hm
    have e2 : w.cell? ⟨b, off + j, none⟩ = w.cell? ⟨b, off + j / 5 * 5, none⟩ := congrArg (fun q => w.cell? ⟨b, q, none⟩) (by omega)
    exact e2.trans (h0.trans (v0.symm.trans (e1.symm.trans hj)))
  · have e1 : (Puvs L)[j]? = (Puvs L)[j / 5 * 5 + 1]? := congrArg (fun q => (Puvs L)[q]?) hm
    have e2 : w.cell? ⟨b, off + j, none⟩ = w.cell? ⟨b, off + j / 5 * 5 + 1, none⟩ := congrArg (fun q => w.cell? ⟨b, q, none⟩) (by omega)
    exact e2.trans (h1.trans (v1.symm.trans (e1.symm.trans hj)))
  · have e1 : (Puvs L)[j]? = (Puvs L)[j / 5 * 5 + 2]? := congrArg (fun q => (Puvs L)[q]?) hm
    have e2 : w.cell? ⟨b, off + j, none⟩ = w.cell? ⟨b, off + j / 5 * 5 + 2, none⟩ := congrArg (fun q => w.cell? ⟨b, q, none⟩) (by omega)
    exact e2.trans (h2.trans (v2.symm.trans (e1.symm.trans hj)))
  · have e1 : (Puvs L)[j]? = (Puvs L)[j / 5 * 5 + 3]? := congrArg (fun q => (Puvs L)[q]?) hm
    have e2 : w.cell? ⟨b, off + j, none⟩ = w.cell? ⟨b, off + j / 5 * 5 + 3, none⟩ := congrArg (fun q => w.cell? ⟨b, q, none⟩) (by omega)
    exact e2.trans (h3.trans (v3.symm.trans (e1.symm.trans hj)))
  · have e1 : (Puvs L)[j]? = (Puvs L)[j / 5 * 5 + 4]? := congrArg (fun q => (Puvs L)[q]?) hm
    have e2 : w.cell? ⟨b, off + j, none⟩ = w.cell? ⟨b, off + j / 5 * 5 + 4, none⟩ := congrArg (fun q => w.cell? ⟨b, q, none⟩) (by omega)
    exact e2.trans (h4.trans (v4.symm.trans (e1.symm.trans hj)))
theorem Puvs_own {base : Nat} {W : World} {v : Value} {L : List Pu} (h : W.ownsRow base 158 5 v L.length (Puvs L)) (hz : ∀ i (hi : i < L.length), PuSize L[i]) : PusOwn base W.heap.size W v L := by
  by_cases hL : L = []
  · subst hL
    rcases h.2 with ⟨hv, _⟩ | ⟨g, cap, cur, hv, _⟩
    · exact Or.inl ⟨_, _, hv, rfl⟩
    · exact Or.inl ⟨_, _, hv, rfl⟩
  · rcases h.2 with ⟨_, hn⟩ | ⟨g, cap, cur, hv, h1, h2, h3, h4, _⟩
    · exact absurd (List.length_eq_zero_iff.1 hn) hL
    · have hl := ownsB_lt h (g := g) (by rw [hv]; rfl)
      have ho := h
      have h0 : 0 < L.length := List.length_pos_iff.2 hL
      subst hv
      refine Or.inr ⟨g, 0, cap, fun _ => g + 1, fun i => if h : i < L.length then L[i] else L[0], rfl, hL, Nat.le_trans h3 h4, h3, fun i hi => by simp [hi], hl.1, hl.2.1, Nat.lt_succ_self _, hl.1, fun _ _ => Nat.le_refl _, hl.1, hl.2.2, fun i hi => ?_⟩
      obtain ⟨v0, v1, v2, v3, v4⟩ := Puvs_at L i hi
      simp only [hi, dif_pos]
      have ce : ∀ j, j < 5 → W.cell? ⟨g, 0 + i * 5 + j, none⟩ = (Puvs L)[i * 5 + j]? := fun j hj => by rw [Nat.zero_add]; exact ho.cellAt _ (by omega)
      exact ⟨hz i hi, ⟨(ce 0 (by omega)).trans v0, (ce 1 (by omega)).trans v1, (ce 2 (by omega)).trans v2, (ce 3 (by omega)).trans v3, (ce 4 (by omega)).trans v4⟩⟩

end Go.Proofs.Ytmaagbnjpdijnaa

namespace Go.Proofs.Ytmaagbnjpdijnaa
open Go.RowKit Go.Deep

set_option maxHeartbeats 1000000 in
theorem copyGr_any (lo : Nat) (x : Gr) (vv0 : Value) (w : World) (hv0 : IntsIn lo w vv0 x.vb) (hn : GrSmall x) :
    Calls Try.prog 51 #[.agg #[.int .i64 x.nu, .string x.tw, .string x.gb, vv0, .string x.kd, .string x.tm, .string x.pf]] w
      fun e w' => ∃ z0, e = .returned (.agg #[.int .i64 x.nu, .string x.tw, .string x.gb, z0, .string x.kd, .string x.tm, .string x.pf]) ∧ Below w.heap.size w w' ∧ IntsOwn w.heap.size w'.heap.size w' z0 x.vb := by
  have HV := hide hv0
  obtain ⟨a, cap, rfl⟩ := hv0.form
  clear hv0
  go_enter Try.func51, Try.ntmps51
  go_wp2_with fail
  refine (cloneInts_any lo _ x.vb _ (HV.out.below ?_) hn).mono ?_
  · exact ((Below.refl _ _).alloc (Nat.le_refl _) _).alloc (by simp) _
  rintro e w1 ⟨v', rfl, hb, hs⟩
  obtain ⟨a', cap', rfl⟩ := hs.form
  have HS : Hid (IntsOwn (w.heap.size + 2) w1.heap.size w1 (.slice a' x.vb.length cap') x.vb) := hs.wide (by simp) (Nat.le_refl _)
  clear hs
  have hz : w.heap.size + 1 < w1.heap.size := by have := hb.size; simp at this; omega
  have hc : ∀ b o, b < w.heap.size + 2 → w1.cell? ⟨b, o, none⟩ = _ := fun b o h => hb.cell (p := ⟨b, o, none⟩) (by simpa using h)
  have hf : ∀ b o, b < w.heap.size + 2 → w1.frozen? ⟨b, o, none⟩ = _ := fun b o h => hb.frozen (p := ⟨b, o, none⟩) (by simpa using h)
  have HB : Hid (Below w.heap.size w w1) := (((Below.refl _ _).alloc (Nat.le_refl _) _).alloc (by simp) _).trans (hb.mono (by simp; omega))
  clear hb
  go_wp2
  refine bodyPost_ret (v := .agg #[.int .i64 x.nu, .string x.tw, .string x.gb, (.slice a' x.vb.length cap'), .string x.kd, .string x.tm, .string x.pf]) (by simp [results, Try.results51, go_sem, hc]) rfl ⟨_, rfl, ?_, ?_⟩
  · repeat (refine Below.setCell ?_ (by simp only []; omega) _)
    exact HB.out
  · refine IntsOwn.wide (lo := w.heap.size + 2) (hi := w1.heap.size) ?_ (by omega) (by simp [World.setCell])
    repeat (refine IntsOwn.setLow ?_ (by simp only []; omega) _)
    exact HS.out

set_option maxRecDepth 20000 in
set_option maxHeartbeats 4000000 in
theorem eachGrs_any (lo : Nat) (v : Value) (Xl : List Gr) (w : World) (hv : GrsAt lo w v Xl) (hn : GrsSmall Xl) :
    Calls Try.prog 50 #[v, .func (.func 51) #[] #[]] w fun e w' => ∃ v', e = .returned v' ∧ Below w.heap.size w w' ∧ GrsOwn w.heap.size w'.heap.size w' v' Xl := by
  have hnil := fun W a n c => Lib.run_eql_slice_nil (P := Try.prog) W 33 91 a n c 0 0 Try.underlying33
  obtain ⟨i0, hi, hz0, hz1, hz2⟩ := info_parts Try.info91
  have HSM := hide hn.2
  have hn1 := hn.1
  clear hn
  by_cases hL : Xl = []
  · subst hL
    obtain ⟨a, cap, rfl⟩ := hv.form
    clear hv
    have hmk : ∀ u : World, (Instr.makeSlice 33 (.int .i64 0) (.int .i64 0)).run Try.prog u = .ok (.slice (some ⟨u.heap.size, 0, none⟩) 0 0) (u.alloc (.cells (madeCells (Value.cells (.agg #[.int .i64 0, .string ⟨#[]⟩, .string ⟨#[]⟩, .slice none 0 0, .string ⟨#[]⟩, .string ⟨#[]⟩, .string ⟨#[]⟩])) 0) 91)) := fun u => by
      have h := run_make (P := Try.prog) u 33 91 i0 _ Try.underlying33 hi hz0 .i64 .i64 0 0 (by omega) (by omega) (by omega) (by omega)
      simpa [hz1] using h
    cases a with
    | none =>
      go_enter Try.func50, Try.ntmps50
      go_wp2
      go_ret
      exact ⟨_, rfl, Below.refl _ _, Or.inl ⟨_, _, rfl, rfl⟩⟩
    | some ad =>
      go_enter Try.func50, Try.ntmps50
      go_wp2
      go_loop [15] (fun i => i = .int .i64 0) (fun _ => 0)
      case atStart => rfl
      case round =>
        subst hrel
        go_wp2
        go_ret
        exact ⟨_, rfl, (Below.refl _ _).alloc (Nat.le_refl _) _, Or.inl ⟨_, _, rfl, rfl⟩⟩
  · obtain ⟨b, off, cap, rfl, hm, hbw, _, hc⟩ := hv.full hL
    clear hv
    have HM : Hid (Xl.length ≤ maxLen) := hm
    unfold maxLen at hm
    have hmk : ∀ u : World, (Instr.makeSlice 33 (.int .i64 (Xl.length : Int)) (.int .i64 (Xl.length : Int))).run Try.prog u = .ok (.slice (some ⟨u.heap.size, 0, none⟩) Xl.length Xl.length) (u.alloc (.cells (madeCells (Value.cells (.agg #[.int .i64 0, .string ⟨#[]⟩, .string ⟨#[]⟩, .slice none 0 0, .string ⟨#[]⟩, .string ⟨#[]⟩, .string ⟨#[]⟩])) (Xl.length * 7)) 91)) := fun u => by
      have h := run_make (P := Try.prog) u 33 91 i0 _ Try.underlying33 hi hz0 .i64 .i64 Xl.length Xl.length (by omega) (by omega) (by rw [hz2]; omega) (by omega)
      rw [hz1] at h
      simpa using h
    clear hi hz0 hz1 hz2
    go_enter Try.func50, Try.ntmps50
    go_wp2
    clear hmk hnil
    go_loopw [15] (fun i wr => ∃ (k : Nat) (c : Nat → Nat), i = .int .i64 k ∧ k ≤ Xl.length ∧ Below w.heap.size w wr ∧ GrsFillO wr w.heap.size Xl k c) (fun i _ => Xl.length - (intOf i).toNat)
    case atStart => exact ⟨0, _, rfl, by omega, (Below.refl _ _).alloc (Nat.le_refl _) _, GrsFillO.new w Xl _⟩
    case round =>
      obtain ⟨k, c, rfl, hk, hb, hf⟩ := hrel
      by_cases hlt : k < Xl.length
      · obtain ⟨hs, vv0, hc, hv0⟩ := hc k hlt
        have HB := hide hb
        have HF := hide hf
        have HSZ := hide hs
        obtain ⟨x0, y0, rfl⟩ := hv0.form
        obtain ⟨c0, c1, c2, c3, c4, c5, c6⟩ := hc.below hb hbw
        have HV0 := hide (hv0.below hb)
        clear hv0
        clear hc hb hf hs
        go_wp2_with fail
        generalize hWx : wr.alloc _ = Wx
        have hx : Below wr.heap.size wr Wx := by rw [← hWx]; exact one_al _ _
        clear hWx
        refine (copyGr_any 0 Xl[k] _ _ ((HV0.out.below hx).mono (Nat.zero_le _)) (HSM.out k hlt)).mono ?_
        rintro e w1 ⟨z0, rfl, hb1, hO0⟩
        obtain ⟨s0, t0, rfl⟩ := hO0.form
        have hck : c k ≤ Wx.heap.size := Nat.le_trans HF.out.2.2.1 hx.size
        have hf1 := (HF.out.below hx).below hb1
        have hB : Hid (Below w.heap.size w w1) := HB.out.trans ((hx.trans (hb1.mono hx.size)).mono HB.out.size)
        have HST := hide (hf1.step hlt HSZ.out w1.heap.size (Nat.le_trans hck hb1.size) (Nat.le_refl _) (Nat.le_trans hck hb1.size) (hO0.wide hck (Nat.le_refl _)))
        have hfr := hf1.free
        obtain ⟨o0, ho0⟩ := hf1.there (k * 7) (by omega)
        obtain ⟨o1, ho1⟩ := hf1.there (k * 7 + 1) (by omega)
        obtain ⟨o2, ho2⟩ := hf1.there (k * 7 + 2) (by omega)
        obtain ⟨o3, ho3⟩ := hf1.there (k * 7 + 3) (by omega)
        obtain ⟨o4, ho4⟩ := hf1.there (k * 7 + 4) (by omega)
        obtain ⟨o5, ho5⟩ := hf1.there (k * 7 + 5) (by omega)
        obtain ⟨o6, ho6⟩ := hf1.there (k * 7 + 6) (by omega)
        clear hf1 hb1 hx HF HB c0 c1 c2 c3 c4 c5 c6
        go_wp2
        go_roundw
        case rel =>
          exact ⟨k + 1, _, by go_num, by omega, (((((((hB.out.setCell (Nat.le_refl _) _).setCell (Nat.le_refl _) _).setCell (Nat.le_refl _) _).setCell (Nat.le_refl _) _).setCell (Nat.le_refl _) _).setCell (Nat.le_refl _) _).setCell (Nat.le_refl _) _), HST.out⟩
        case measure => simp [intOf]; omega
      · have e : k = Xl.length := by omega
        go_wp2
        go_ret
        exact ⟨_, rfl, hb, hf.own e hL HM.out⟩
end Go.Proofs.Ytmaagbnjpdijnaa

namespace Go.Proofs.Ytmaagbnjpdijnaa
open Go.RowKit Go.Deep

section
variable (lo : Nat) (ov gv lv pv : Value) (B : Bk) (w : World)

end
end Go.Proofs.Ytmaagbnjpdijnaa

