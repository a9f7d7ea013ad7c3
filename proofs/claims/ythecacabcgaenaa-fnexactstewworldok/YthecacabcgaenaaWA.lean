
import Derived.Test.YthecacabcgaenaaWS1
import Derived.Maps.AppendAt
import Derived.Lib.AppendZeros
import Derived.WideShapes
namespace Go.Proofs.Ythecacabcgaenaa
open Go.RowKit Go.Deep

/-! rows of books of one's own -/
theorem waB_lt {base : Nat} {W : World} {e : TypeId} {sz n : Nat} {v : Value} {cs : List Value} (h : W.ownsRow base e sz v n cs) {g : Nat} (hg : v.ownBlock = some g) : base ≤ g ∧ g < W.heap.size := by
  rcases h.2 with ⟨rfl, -⟩ | ⟨g', cap, cur, rfl, hb, hgc, -⟩
  · cases hg
  · cases hg
    exact ⟨hb, (Array.getElem?_eq_some_iff.1 hgc).1⟩
theorem waB_grown {base : Nat} {e : TypeId} {sz n : Nat} {W w' : World} {v : Value} {cs : List Value} (h : W.ownsRow base e sz v n cs) (hg : W.grownBy w' v.ownBlock) (hb : base ≤ W.heap.size) : Below base W w' :=
  ⟨hg.os, hg.tape, hg.output, hg.size, fun k hk => hg.block k (by omega) fun e => by have := (waB_lt h e.symm).1; omega⟩
/-- append to a row of one's own, whatever is put behind it -/
theorem wpList_append_wa {P : Program} {w : World} {ops : Array Oper} {rest : List Oper} {o : Oper} {a : Act} {Q : Exit → Act → World → Prop} (hgd : o.guard = none) (s x : Operand) (t : TypeId)
    (ho : o.op = .call { callee := .builtin .append, args := #[s, x], argTypes := #[t, t] })
    (base : Nat) (e : TypeId) (i : TypeInfo) (z : Value) (size bytes : Nat) (ht : P.underlying t = some (.slice e)) (hi : P.info? e = some i) (hz : i.zero = some z)
    (hsize : i.size = size) (hby : i.bytes = bytes) (hzs : z.cells.size = size) (hsz : 0 < size)
    (v : Value) (n : Nat) (xs : List Value) (hs : a.eval s = v) (hown : w.ownsRow base e size v n xs)
    (ao : Option Addr) (m c : Nat) (news : List Value) (hx : a.eval x = .slice ao m c) (hl : news.length = m * size) (hm : ao = none → m = 0) (hnews : ∀ ad, ao = some ad → ∀ j u, news[j]? = some u → w.cell? (ad.add j) = some u) (h1 : ∀ u ∈ news, u.oneCell' = true)
    (h63 : n + m ≤ maxLen) (hbytes : (n + m) * bytes ≤ 140737488355328) (hbase : base ≤ w.heap.size)
    (h : ∀ v' w', w'.ownsRow base e size v' (n + m) (xs ++ news) → w.grownBy w' v.ownBlock → wpList P ops Q rest (a.put o.dst v') w') : wpList P ops Q (o :: rest) a w := by
  have hr : ∃ v' w', (Builtin.append_ #[t, t] o.type #[v, .slice ao m c]).run P w = .ok v' w' ∧ w'.ownsRow base e size v' (n + m) (xs ++ news) ∧ w.grownBy w' v.ownBlock := by
    cases ao with
    | some ad =>
      obtain ⟨v', w', h2, h3, h4, -, -⟩ := run_append_own_at (P := P) w base t o.type e i z size bytes ht hi hz hsize hby hzs hsz v n xs hown ad m c news hl (hnews ad rfl) h1 h63 hbytes hbase
      exact ⟨v', w', h2, h3, h4⟩
    | none =>
      obtain rfl := hm rfl
      have hn : news = [] := List.eq_nil_of_length_eq_zero (by simpa using hl)
      subst hn
      rcases hown.2 with ⟨rfl, rfl⟩ | ⟨g, cap, cur, rfl, hbg, hg, hnc, hcm, hcs, htake⟩
      · refine ⟨.slice none 0 0, w, ?_, by simpa using hown, ⟨rfl, rfl, rfl, Nat.le_refl _, fun _ _ _ => rfl⟩⟩
        simp [Builtin.append_, run_underlying ht, sizeOf, typeInfo, hi, Builtin.lenOf, Builtin.firstCells]
      · refine ⟨.slice (some ⟨g, 0, none⟩) n cap, w, ?_, by simpa using hown, ⟨rfl, rfl, rfl, Nat.le_refl _, fun _ _ _ => rfl⟩⟩
        simp [Builtin.append_, run_underlying ht, sizeOf, typeInfo, hi, Builtin.lenOf, Builtin.firstCells, storeCells, hnc]
  obtain ⟨v', w', hr, h2, h3⟩ := hr
  exact Lib.wpList_append_run w hgd s x t t ho _ _ hs hx v' w' hr (h v' w' h2 h3)
/-- the values of a list of books, and what they lead to -/
structure SbsNews (lo : Nat) (w : World) (news : List Value) (Xl : List Sb) : Prop where
  len : news.length = Xl.length * 4
  one : ∀ u ∈ news, u.oneCell' = true
  at' : ∀ i (h : i < Xl.length), ∃ cs, SbC lo w cs Xl[i] ∧ ∀ t u, cs[t]? = some u → news[i * 4 + t]? = some u
theorem SbsNews.below {lo : Nat} {w w' : World} {news : List Value} {Xl : List Sb} (h : SbsNews lo w news Xl) (hb : Below w.heap.size w w') : SbsNews lo w' news Xl :=
  ⟨h.len, h.one, fun i hi => by obtain ⟨cs, h1, h2⟩ := h.at' i hi; exact ⟨cs, h1.below hb, h2⟩⟩
theorem SbsNews.nil (lo : Nat) (w : World) : SbsNews lo w [] [] := ⟨rfl, fun _ h => (List.not_mem_nil h).elim, fun i h => absurd h (Nat.not_lt_zero i)⟩
theorem SbsNews.snoc {lo : Nat} {w : World} {news cs : List Value} {Xl : List Sb} {B : Sb} (h : SbsNews lo w news Xl) (hc : SbC lo w cs B) : SbsNews lo w (news ++ cs) (Xl ++ [B]) := by
  have hl := hc.len
  refine ⟨by simp [h.len, hl]; omega, fun u hu => ?_, fun i hi => ?_⟩
  · rcases List.mem_append.1 hu with hu | hu
    · exact h.one u hu
    · have := hc.one
      rw [Array.all_eq_true] at this
      obtain ⟨j, hj, rfl⟩ := List.getElem_of_mem hu
      exact this j (by simpa using hj)
  · by_cases e : i < Xl.length
    · obtain ⟨cs', h1, h2⟩ := h.at' i e
      rw [List.getElem_append_left e]
      refine ⟨cs', h1, fun t u hu => ?_⟩
      have := h2 t u hu
      rw [List.getElem?_append_left (List.getElem?_eq_some_iff.1 this).1]
      exact this
    · have e2 : i = Xl.length := by simp at hi; omega
      subst e2
      rw [List.getElem_append_right (by omega)]
      refine ⟨cs, by simpa using hc, fun t u hu => ?_⟩
      rw [List.getElem?_append_right (by rw [h.len]; omega), h.len, Nat.add_sub_cancel_left]
      exact hu
theorem SbsAt.news {lo : Nat} {w : World} {a : Option Addr} {n cap : Nat} {Xl : List Sb} (h : SbsAt lo w (.slice a n cap) Xl) :
    ∃ news, SbsNews lo w news Xl ∧ (a = none → Xl.length = 0) ∧ ∀ ad, a = some ad → ∀ j u, news[j]? = some u → w.cell? (ad.add j) = some u := by
  by_cases h0 : 0 < Xl.length
  · obtain ⟨b, off, rfl, -, -, hc⟩ := h.full' h0
    have key : ∀ j, j < Xl.length * 4 → ∃ u, w.cell? ⟨b, off + j, none⟩ = some u ∧ u.oneCell' = true := fun j hj => by
      obtain ⟨cs, hr, hx⟩ := hc (j / 4) (by omega)
      have hl := hx.len
      have ho := hx.one
      rw [Array.all_eq_true] at ho
      have ht : j % 4 < cs.length := by omega
      refine ⟨cs[j % 4], ?_, ho (j % 4) (by simpa using ht)⟩
      have := hr (j % 4) _ (List.getElem?_eq_getElem ht)
      rw [← this]
      congr 2
      omega
    have get : ∀ j u, ((List.range (Xl.length * 4)).map fun j => (w.cell? ⟨b, off + j, none⟩).getD default)[j]? = some u → j < Xl.length * 4 ∧ w.cell? ⟨b, off + j, none⟩ = some u := fun j u hu => by
      obtain ⟨hj, e⟩ := List.getElem?_eq_some_iff.1 hu
      simp only [List.length_map, List.length_range] at hj
      simp only [List.getElem_map, List.getElem_range] at e
      obtain ⟨u', h1, -⟩ := key j hj
      rw [h1] at e
      exact ⟨hj, by rw [h1, ← e]; rfl⟩
    refine ⟨(List.range (Xl.length * 4)).map fun j => (w.cell? ⟨b, off + j, none⟩).getD default, ⟨by simp, fun u hu => ?_, fun i hi => ?_⟩, fun e => (nomatch e), fun ad e j u hu => ?_⟩
    · obtain ⟨j, hj, e⟩ := List.getElem_of_mem hu
      obtain ⟨h1, h2⟩ := get j u (by rw [List.getElem?_eq_getElem hj, e])
      obtain ⟨u', h3, h4⟩ := key j h1
      rw [h2] at h3
      cases h3
      exact h4
    · obtain ⟨cs, hr, hx⟩ := hc i hi
      have hl := hx.len
      refine ⟨cs, hx, fun t u hu => ?_⟩
      have ht := (List.getElem?_eq_some_iff.1 hu).1
      have h1 := hr t u hu
      rw [Nat.add_assoc] at h1
      rw [List.getElem?_map, List.getElem?_range (by omega)]
      simp [h1]
    · cases e
      rw [Go.WideShapes.add_plain]
      exact (get j u hu).2
  · have hx : Xl = [] := List.length_eq_zero_iff.1 (by omega)
    subst hx
    exact ⟨[], SbsNews.nil lo w, fun _ => rfl, fun ad e j u hu => by simp at hu⟩
theorem SbsNews.own {lo base : Nat} {w : World} {news : List Value} {Xl : List Sb} {v : Value} (h : SbsNews lo w news Xl) (ho : w.ownsRow base 37 4 v Xl.length news) (hm : Xl.length ≤ maxLen) : SbsAt 0 w v Xl := by
  by_cases h0 : Xl.length = 0
  · have hx : Xl = [] := List.length_eq_zero_iff.1 h0
    rcases ho.2 with ⟨rfl, -⟩ | ⟨g, cap, cur, rfl, -⟩
    · exact Or.inl ⟨_, _, rfl, hx⟩
    · exact Or.inl ⟨_, _, by rw [h0], hx⟩
  · rcases ho.2 with ⟨-, e⟩ | ⟨g, cap, cur, rfl, hbg, hg, hnc, hcm, hcs, htake⟩
    · exact absurd e h0
    · have hlt : g < w.heap.size := (Array.getElem?_eq_some_iff.1 hg).1
      refine Or.inr ⟨g, 0, cap, rfl, fun e => h0 (by rw [e]; rfl), hm, hlt, Nat.zero_le _, hnc, fun i hi => ?_⟩
      obtain ⟨cs, h1, h2⟩ := h.at' i hi
      refine ⟨cs, fun t u hu => ?_, h1.mono (Nat.zero_le _)⟩
      have h3 := h2 t u hu
      have := ho.cells (g := g) rfl (i * 4 + t) u h3
      rw [Go.WideShapes.add_plain] at this
      rw [← this]
      congr 2
      omega
end Go.Proofs.Ythecacabcgaenaa
