import Derived.Test.YtemggnmooiaokaaGreatD25
import Derived.Test.YtemggnmooiaokaaGreatD46
namespace Go.Proofs.YtemggnmooiaokaaGreat
open Go.RowKit Go.Deep Go.Shelf

attribute [local go_sem] Oper.semAt_some

theorem Tryz.infoCpy : (Tryz.prog.info? 87).map (fun i => (i.zero, i.size, i.bytes)) = some (some (.agg #[.string ⟨#[]⟩, .int .i64 0, .int .i64 0, .int .i64 0, .int .i64 0, .bool false, .string ⟨#[]⟩]), 7, 72) := by kernel_rfl
theorem owns_blk {w w' : World} {base : Nat} {e : TypeId} {sz n : Nat} {v : Value} {xs : List Value} (h : w.ownsRow base e sz v n xs) (hb : ∀ g o, base ≤ g → w.heap[g]? = some o → o.isCells = true → w'.heap[g]? = some o) : w'.ownsRow base e sz v n xs := by
  obtain ⟨h1, h2 | ⟨g, cap, cur, h3, h4, h5, h6⟩⟩ := h
  · exact ⟨h1, Or.inl h2⟩
  · exact ⟨h1, Or.inr ⟨g, cap, cur, h3, h4, hb g _ h4 h5 rfl, h6⟩⟩
theorem KeepsBut.row {S : Nat → Prop} {B : Nat} {W W' : World} {row : Option Nat} (h : W.grownBy W' row) (hS : ∀ r, row = some r → S r) : KeepsBut S B W W' :=
  ⟨h.os, h.tape, h.output, h.size, fun k _ hk hs _ => (h.block k (Array.getElem?_eq_some_iff.1 hk).1 (fun e => hs (hS k e.symm))).trans hk⟩
theorem KeepsOthers.row {W W' : World} {row : Option Nat} (h : W.grownBy W' row) (hr : ∀ r, row = some r → ∃ o : Obj, W.heap[r]? = some o ∧ o.isCells = true) : KeepsOthers W W' :=
  ⟨h.size, fun k o hk hc => (h.block k (Array.getElem?_eq_some_iff.1 hk).1 (fun e => by
    obtain ⟨o', ho', hc'⟩ := hr k e.symm
    rw [hk] at ho'
    cases ho'
    rw [hc] at hc'
    cases hc')).trans hk⟩
theorem owns_isCells {w : World} {base : Nat} {e : TypeId} {sz n : Nat} {v : Value} {xs : List Value} (h : w.ownsRow base e sz v n xs) : ∀ r, v.ownBlock = some r → base ≤ r ∧ ∃ o : Obj, w.heap[r]? = some o ∧ o.isCells = true := fun r hr => by
  obtain ⟨-, ⟨rfl, -⟩ | ⟨g, cap, cur, rfl, h4, h5, -⟩⟩ := h
  · cases hr
  · cases hr
    exact ⟨h4, _, h5, rfl⟩
theorem Box.row {X Y : World} {β base : Nat} {cs : Array Value} {e : TypeId} {sz n : Nat} {v : Value} {xs : List Value} (h : Box X β cs) (ho : X.ownsRow base e sz v n xs) (hg : X.grownBy Y v.ownBlock) (hb : β < base) : Box Y β cs :=
  h.ofBlk (hg.block _ h.lt (fun e => by have := (owns_isCells ho β e.symm).1; omega))
/-- copies that were gathered, in a row of one's own -/
def CRow (w : World) (base : Nat) (v : Value) (L : List Cp) : Prop := w.ownsRow base 87 7 v L.length (flatV cpL L)
theorem CRow.snoc {w : World} {base : Nat} {v : Value} {L : List Cp} {c : Cp} (h : w.ownsRow base 87 7 v (L.length + 1) (flatV cpL L ++ cpL c)) : CRow w base v (L ++ [c]) := by
  unfold CRow
  rw [flatV_app, List.length_append]
  simpa [flatV] using h
/-- the world while copies are gathered -/
structure CoW (w : World) (base Z : Nat) (L : List Cp) (X : World) : Prop where
  row : ∃ v, Box X w.heap.size #[v] ∧ CRow X base v L
  below : Below w.heap.size w X
  big : Z ≤ X.heap.size
theorem CoW.grow {w : World} {base Z : Nat} {L : List Cp} {X Y : World} {row : Option Nat} (h : CoW w base Z L X) (hg : X.grownBy Y row) (hr : ∀ r, row = some r → Z ≤ r ∧ ∃ o : Obj, X.heap[r]? = some o ∧ o.isCells = false) (hw : w.heap.size < Z) : CoW w base Z L Y := by
  obtain ⟨v, hb, ho⟩ := h.row
  refine ⟨⟨v, hb.ofBlk (hg.block _ hb.lt (fun e => by have := (hr _ e.symm).1; omega)), owns_blk ho (fun g o _ hgo hc => (hg.block g (Array.getElem?_eq_some_iff.1 hgo).1 (fun e => ?_)).trans hgo)⟩,
    h.below.trans ⟨hg.os, hg.tape, hg.output, hg.size, fun j hj => hg.block j (Nat.lt_of_lt_of_le hj h.below.size) (fun e => by have := (hr _ e.symm).1; omega)⟩, Nat.le_trans h.big hg.size⟩
  obtain ⟨-, o', ho', hc'⟩ := hr g e.symm
  rw [hgo] at ho'
  cases ho'
  rw [hc] at hc'
  cases hc'

set_option maxRecDepth 100000 in
set_option maxHeartbeats 8000000 in
theorem appendSeq_any (w : World) (gf : Nat) (lb : Array Value) (N : Nat) (hN : N ≤ 200) (Sx : List CpL → Prop) (eg : ∀ args W, (callFunc gf args).run Tryz.prog W = .ok (.enter gf args) W)
    (hseq : ∀ wl : World, Below w.heap.size w wl → wl.heap.size = w.heap.size + 1 → Passes 5 Tryz.prog gf lb encL (KeepsBut (fun k => k = w.heap.size ∨ w.heap.size + 6 ≤ k) wl.heap.size) Sx N wl (w.heap.size + 1 + 2) 3) :
    Calls Tryz.prog 141 #[.slice none 0 0, .func (.func gf) #[] lb] w fun e w' => ∃ v xs, e = .returned v ∧ Sx xs ∧ CRow w' w.heap.size v (xs.map (·.1)) ∧ Below w.heap.size w w' := by
  obtain ⟨i1, hi1, hz1, hy1, hx1⟩ := info_parts Tryz.infoCpy
  have HI1 := hide (And.intro hi1 (And.intro hz1 (And.intro hy1 hx1)))
  have HQ := hide hseq
  clear hi1 hz1 hy1 hx1 hseq
  refine (callsIn_wide (n := 6)).1 ?_
  refine callsIn_of_wp_marks Tryz.func141 rfl trivial ?_ rfl
  simp only [Tryz.ntmps141, List.size_toArray, List.length_cons, List.length_nil, Nat.reduceAdd, Nat.reduceSub, Array.replicate_succ, Array.replicate_zero, List.push_toArray, List.append_toArray, List.nil_append, List.cons_append]
  gi_wp2_with fail
  generalize hwl : w.alloc _ = wl
  have HBl : Hid (Below w.heap.size w wl) := by unfold Hid; rw [← hwl]; exact one_al w _
  have FB : Hid (Box wl w.heap.size #[.slice none 0 0]) := by unfold Hid; rw [← hwl]; exact Box.new _ _ _ _ rfl
  have hsz : wl.heap.size = w.heap.size + 1 := by rw [← hwl]; simp
  clear hwl
  have HS2 : Passes 5 Tryz.prog gf lb encL (KeepsBut (fun k => k = w.heap.size ∨ w.heap.size + 6 ≤ k) wl.heap.size) Sx N wl (wl.heap.size + 2) 3 := by have := HQ.out wl HBl.out hsz; rw [← hsz] at this; exact this
  refine range_pass (by decide) (gf := gf) (lb := lb) rfl eg HS2
    KeepsBut.trans KeepsBut.put (Below.refl _ _) (fun _ => rfl)
    (fun pre X => CoW w (w.heap.size + 6) wl.heap.size (pre.map fun y : CpL => y.1) X)
    (fun s X Y row hs hg hr => hs.grow hg hr (by omega))
    ⟨⟨_, FB.out, rfl, Or.inl ⟨rfl, rfl⟩⟩, HBl.out, Nat.le_refl _⟩
    (fun y a' X => ∃ β : Nat, wl.heap.size ≤ β ∧ a' = { tmps := #[.slice none 0 0, .func (.func gf) #[] lb, .pointer (some ⟨w.heap.size, 0, none⟩), undef, .slice none 0 0, .pointer (some ⟨β, 0, none⟩), .func (.func gf) #[] lb, .agg #[.string y.1.se, .int .i64 y.1.nu, .int .i64 y.1.ve, .int .i64 y.1.im, .int .i64 y.1.st, .bool y.1.en, .string y.1.be], undef, undef, undef, undef, undef], defers := [] } ∧ Box X β #[.string y.1.se, .int .i64 y.1.nu, .int .i64 y.1.ve, .int .i64 y.1.im, .int .i64 y.1.st, .bool y.1.en, .string y.1.be])
    (fun y a' s X Y row hs hg hr => by
      obtain ⟨β, hβ, e1, e2⟩ := hs
      exact ⟨β, hβ, e1, e2.ofBlk (hg.block _ e2.lt (fun e => by
        obtain ⟨-, o, ho, hc⟩ := hr _ e.symm
        obtain ⟨o', ho', hc'⟩ := cells_of_cell (e2.cell 0)
        rw [ho] at ho'
        cases ho'
        rw [hc] at hc'
        cases hc'))⟩) ?assign ?body ?done
  case assign =>
    intro l pre y X hI
    have HI := hide hI
    have hbg := hI.big
    clear hI
    gi_wp2
    exact ⟨(KeepsOthers.alloc _ _).from _, KeepsBut.grow (World.grownBy_alloc _ _ none), HI.out.grow (World.grownBy_alloc _ _ none) (fun r e => by cases e) (by omega), X.heap.size, hbg, rfl, Box.new _ _ _ _ rfl⟩
  case body =>
    rintro l pre y a' X hll hrec hI ⟨β, hβ, rfl, hY2⟩ hlen hzb
    obtain ⟨v, hbv, hrow⟩ := hI.row
    have HB := hide hI.below
    have hbg := hI.big
    have FV := hide hbv
    have HR := hide hrow
    have b0 := hbv.cell 0
    have yc := hY2.cell
    have hvf : ∀ i, X.frozen? ⟨w.heap.size, i, none⟩ = false := hbv.free
    simp at b0
    clear hI hbv hrow hY2 hrec
    have hpl : (pre.map fun y : CpL => y.1).length ≤ 200 := by simp; omega
    have HRo : Hid (∀ o, (X.alloc o).ownsRow (w.heap.size + 6) 87 7 v (pre.map fun y : CpL => y.1).length (flatV cpL (pre.map fun y : CpL => y.1))) := fun o => ownsB_on (show X.ownsRow _ _ _ _ _ _ from HR.out) (one_al _ o)
    have HC1 : Hid (∀ u ∈ cpL y.1, u.oneCell' = true) := fun u hu => by
      unfold cpL at hu
      simp only [List.mem_cons, List.not_mem_nil, or_false] at hu
      rcases hu with rfl | rfl | rfl | rfl | rfl | rfl | rfl <;> rfl
    have HCA : Hid (∀ t, ∀ j u, (cpL y.1)[j]? = some u → (X.alloc (.cells #[.string y.1.se, .int .i64 y.1.nu, .int .i64 y.1.ve, .int .i64 y.1.im, .int .i64 y.1.st, .bool y.1.en, .string y.1.be] t)).cell? ((⟨X.heap.size, 0, none⟩ : Addr).add j) = some u) := fun t => cells_at (Box.new _ _ _ _ rfl) rfl _ rfl
    gi_wp2_with (gi_at_builtin; refine wpListIn_append_own _ rfl (.tmp 8) (.tmp 10) 30 rfl (w.heap.size + 6) 87 i1 (.agg #[.string ⟨#[]⟩, .int .i64 0, .int .i64 0, .int .i64 0, .int .i64 0, .bool false, .string ⟨#[]⟩]) 7 72 Tryz.underlying30 HI1.out.1 HI1.out.2.1 HI1.out.2.2.1 HI1.out.2.2.2 rfl (by decide) v (pre.map fun y : CpL => y.1).length (flatV cpL (pre.map fun y : CpL => y.1)) rfl (HRo.out _) ⟨X.heap.size, 0, none⟩ 1 1 (cpL y.1) rfl rfl (HCA.out _) HC1.out (by unfold maxLen; omega) (by omega) (by simp; omega) ?_; intro v' X2 hown2 hgrow2 hnil2; obtain ⟨g2, cap2, rfl⟩ := ownsRow_succ hown2; have FV2 := hide ((FV.out.on (one_al _ _)).row (HRo.out _) hgrow2 (by omega)); have d0 := FV2.out.cell 0; have df := FV2.out.free 0; simp at d0; have HO2 := hide hown2; have HG2 := hide hgrow2; clear hown2 hgrow2 hnil2)
    have HO3 : Hid (CRow X2 (w.heap.size + 6) (.slice (some ⟨g2, 0, none⟩) (pre.length + 1) cap2) ((pre ++ [y]).map fun y : CpL => y.1)) := by
      unfold Hid
      rw [List.map_append]
      refine CRow.snoc ?_
      have := HO2.out
      rw [List.length_map] at this ⊢
      exact this
    have hx2 := HG2.out.size
    rw [World.size_alloc] at hx2
    refine ⟨(((KeepsOthers.alloc _ _).trans (KeepsOthers.row HG2.out (fun r e => (owns_isCells (HRo.out _) r e).2))).trans (KeepsOthers.setCell _ _ _)).from _,
      ((KeepsBut.grow (World.grownBy_alloc _ _ none)).trans (KeepsBut.row HG2.out (fun r e => Or.inr (owns_isCells (show X.ownsRow _ _ _ _ _ _ from HR.out) r e).1))).trans (KeepsBut.set _ _ _ (Or.inl rfl)), ⟨_, FV2.out.set (k := 0) _ (by simp), ?_⟩, ?_, ?_⟩
    · exact owns_blk HO3.out (fun g o hg ho _ => (Below.heap_setCell _ _ _ g (by simp only []; omega)).trans ho)
    · exact ((bt HB.out (one_al _ _)).trans ((ownsB_grown (HRo.out _) HG2.out (by simp; omega)).mono (by omega))).setCell (Nat.le_refl _) _
    · simp [World.setCell]
      omega
  case done =>
    rintro Dd ys X hD hS hI hKd
    obtain ⟨v, hbv, hrow⟩ := hI.row
    have HB := hide hI.below
    have HR := hide hrow
    have b0 := hbv.cell 0
    simp at b0
    have HS := hide hS
    have hbg := hI.big
    clear hI hrow hbv hS
    gi_wp2
    refine ⟨by simp, .inl ⟨_, _, rfl, run_takeDeferred hKd, ?_⟩⟩
    refine ⟨_, results_tmp rfl _ _ _, _, ys, rfl, HS.out, ?_, HB.out.trans (belowK_b (w := w) (Nat.le_refl _) X Dd _ _ (by omega) hKd rfl rfl)⟩
    have h2 : CRow (X.putObj Dd (.deferred none)) (w.heap.size + 6) v (ys.map fun y : CpL => y.1) := owns_blk HR.out (fun g o hg ho hc => (World.putObj_heap_other (fun e => by
      subst e
      rw [hKd] at ho
      cases ho
      cases hc)).trans ho)
    obtain ⟨h1, h2 | ⟨g, cap, cur, h3, h4, h5⟩⟩ := h2
    · exact ⟨h1, Or.inl h2⟩
    · exact ⟨h1, Or.inr ⟨g, cap, cur, h3, by omega, h5⟩⟩

set_option maxRecDepth 100000 in
set_option maxHeartbeats 8000000 in
theorem collect_any (w : World) (gf : Nat) (lb : Array Value) (N : Nat) (hN : N ≤ 200) (Sx : List CpL → Prop) (eg : ∀ args W, (callFunc gf args).run Tryz.prog W = .ok (.enter gf args) W)
    (hseq : ∀ wl : World, Below w.heap.size w wl → wl.heap.size = w.heap.size + 1 → Passes 5 Tryz.prog gf lb encL (KeepsBut (fun k => k = w.heap.size ∨ w.heap.size + 6 ≤ k) wl.heap.size) Sx N wl (w.heap.size + 1 + 2) 3) :
    Calls Tryz.prog 108 #[.func (.func gf) #[] lb] w fun e w' => ∃ v xs, e = .returned v ∧ Sx xs ∧ CRow w' w.heap.size v (xs.map (·.1)) ∧ Below w.heap.size w w' := by
  have HA := hide (appendSeq_any w gf lb N hN Sx eg hseq)
  clear hseq
  go_enter Tryz.func108, Tryz.ntmps108
  go_wp2_with fail
  refine HA.out.mono ?_
  rintro e w1 ⟨v, xs, rfl, hs, hr, hb⟩
  have H1 := hide hs
  have H2 := hide hr
  have H3 := hide hb
  clear hs hr hb
  go_wp2
  go_ret
  exact ⟨_, _, rfl, H1.out, H2.out, H3.out⟩
end Go.Proofs.YtemggnmooiaokaaGreat
namespace Go.Proofs.YtemggnmooiaokaaGreat
open Go.RowKit Go.Deep Go.Shelf

section
variable (x : Sv) (n : Ct) (w : World)

set_option maxRecDepth 100000 in
set_option maxHeartbeats 4000000 in
theorem share1_any (βs : Nat) (h : Box w βs #[.string x.nm, .int .i64 x.ve, .bool x.gn, .int .i64 x.im, .int .i64 x.wa, .int .i64 x.dn, .int .i64 x.ov, .int .i64 x.nx, .int .i64 x.pr, .int .i64 x.ls, .int .i64 x.ms, .int .i64 x.ld, .int .i64 x.cl]) :
    Calls Tryz.prog 104 #[.pointer (some ⟨βs, 0, none⟩)] w fun e w' => e = .returned (.int .i64 (if x.gn then 1 else 0)) ∧ Below w.heap.size w w' := by
  have s2 := h.cell 2
  simp at s2
  clear h
  go_enter Tryz.func104, Tryz.ntmps104
  cases hg : x.gn with
  | true =>
    rw [hg] at s2
    go_wp2
    go_ret
    exact ⟨rfl, Below.refl _ _⟩
  | false =>
    rw [hg] at s2
    go_wp2
    go_ret
    exact ⟨rfl, Below.refl _ _⟩

set_option maxRecDepth 100000 in
set_option maxHeartbeats 4000000 in
theorem share2_any (βs βn : Nat) (h : Box w βs #[.string x.nm, .int .i64 x.ve, .bool x.gn, .int .i64 x.im, .int .i64 x.wa, .int .i64 x.dn, .int .i64 x.ov, .int .i64 x.nx, .int .i64 x.pr, .int .i64 x.ls, .int .i64 x.ms, .int .i64 x.ld, .int .i64 x.cl]) (hn : Box w βn #[.int .i64 n.li, .int .i64 n.re, .int .i64 n.ol, .int .i64 n.fa, .int .i64 n.en]) (b1 : 0 ≤ n.en ∧ n.en ≤ 200) (b2 : 0 ≤ n.li ∧ n.li ≤ 200) :
    Calls Tryz.prog 105 #[.pointer (some ⟨βs, 0, none⟩), .pointer (some ⟨βn, 0, none⟩)] w fun e w' => e = .returned (.int .i64 (if x.gn then n.en + n.li else n.en)) ∧ Below w.heap.size w w' := by
  have s2 := h.cell 2
  have n0 := hn.cell 0
  have n4 := hn.cell 4
  simp at s2 n0 n4
  have v : IntKind.i64.wrap (n.en + n.li) = n.en + n.li := by rw [IntWalk.i64_left]; unfold wrap64; omega
  clear h hn
  go_enter Tryz.func105, Tryz.ntmps105
  cases hg : x.gn with
  | true =>
    rw [hg] at s2
    go_wp2
    go_ret
    exact ⟨rfl, Below.refl _ _⟩
  | false =>
    rw [hg] at s2
    go_wp2
    go_ret
    exact ⟨rfl, Below.refl _ _⟩

set_option maxRecDepth 100000 in
set_option maxHeartbeats 4000000 in
theorem share3_any (βs βn : Nat) (h : Box w βs #[.string x.nm, .int .i64 x.ve, .bool x.gn, .int .i64 x.im, .int .i64 x.wa, .int .i64 x.dn, .int .i64 x.ov, .int .i64 x.nx, .int .i64 x.pr, .int .i64 x.ls, .int .i64 x.ms, .int .i64 x.ld, .int .i64 x.cl]) (hn : Box w βn #[.int .i64 n.li, .int .i64 n.re, .int .i64 n.ol, .int .i64 n.fa, .int .i64 n.en]) (b1 : 0 ≤ x.wa ∧ x.wa ≤ 10) (b2 : 0 ≤ n.li ∧ n.li ≤ 200) :
    Calls Tryz.prog 106 #[.pointer (some ⟨βs, 0, none⟩), .pointer (some ⟨βn, 0, none⟩)] w fun e w' => e = .returned (.int .i64 (if x.gn then 0 else max (n.li - x.wa) (x.wa - n.li))) ∧ Below w.heap.size w w' := by
  have s2 := h.cell 2
  have s4 := h.cell 4
  have n0 := hn.cell 0
  simp at s2 s4 n0
  have v : IntKind.i64.wrap (n.li - x.wa) = n.li - x.wa := by rw [IntWalk.i64_left]; unfold wrap64; omega
  have v' : IntKind.i64.wrap (x.wa - n.li) = x.wa - n.li := by rw [IntWalk.i64_left]; unfold wrap64; omega
  clear h hn
  go_enter Tryz.func106, Tryz.ntmps106
  cases hg : x.gn with
  | true =>
    rw [hg] at s2
    go_wp2
    go_ret
    exact ⟨rfl, Below.refl _ _⟩
  | false =>
    rw [hg] at s2
    go_wp2
    go_ret
    exact ⟨rfl, Below.refl _ _⟩

set_option maxRecDepth 100000 in
set_option maxHeartbeats 4000000 in
theorem share5_any (βn : Nat) (hn : Box w βn #[.int .i64 n.li, .int .i64 n.re, .int .i64 n.ol, .int .i64 n.fa, .int .i64 n.en]) (b1 : 0 ≤ n.re ∧ n.re ≤ 200) (b2 : 0 ≤ n.li ∧ n.li ≤ 200) :
    Calls Tryz.prog 110 #[.pointer (some ⟨βn, 0, none⟩)] w fun e w' => e = .returned (.int .i64 (n.li - n.re)) ∧ Below w.heap.size w w' := by
  have n0 := hn.cell 0
  have n1 := hn.cell 1
  simp at n0 n1
  have v : IntKind.i64.wrap (n.li - n.re) = n.li - n.re := by rw [IntWalk.i64_left]; unfold wrap64; omega
  clear hn
  go_enter Tryz.func110, Tryz.ntmps110
  go_wp2
  go_ret
  exact ⟨rfl, Below.refl _ _⟩
end

section
variable (lo m : Nat) (sv cv bv : Value) (B : Sb) (x : Sv) (n : Ct) (d : Int) (lk : List Value) (w0 w : World)

set_option maxRecDepth 100000 in
set_option maxHeartbeats 4000000 in
theorem share4_any (βl : Nat) (hb : Box w βl lk.toArray) (hlk : LkIs lk m sv cv bv B x n d) (h : SbAt lo w0 sv cv bv B) (hx : IxAt w0 m B) (hv : validB B = true) (h0 : Below w0.heap.size w0 w) :
    Calls Tryz.prog 107 #[.pointer (some ⟨βl, 0, none⟩)] w fun e w' => e = .returned (.int .i64 (sh3 B x)) ∧ Below w.heap.size w w' := by
  have HK := hide h
  have HX := hide hx
  have HV := hide hv
  have HL := hide hlk
  have FL := hide hb
  have H0 := hide h0
  obtain ⟨M, hM⟩ := cps_sub h
  have HM := hide hM
  clear h hx hv hlk hb h0 hM
  have hu : risR rBe B.bs = true := by
    have := HV.out
    unfold validB at this
    simp only [Bool.and_eq_true] at this
    exact this.2.2.2.2.2.1.2
  have HU := hide hu
  clear hu
  go_enter Tryz.func107, Tryz.ntmps107
  go_wp2_with (first | (refine wpList_load_mid rfl 113 (.tmp 0) rfl βl 0 rfl lk _ FL.out.rng Tryz.underlying113 rfl HL.out.size ?_))
  refine ((callsIn_wide (n := 6)).1 (live_in lk _ 6 109 (.agg lk.toArray))).mono ?_
  rintro e w1 ⟨rfl, hb1, hF1, hF2, hsz⟩
  have HB1 := hide hb1
  have F1 := hide hF1
  have F2 := hide hF2
  clear hb1 hF1 hF2
  go_wp2_with fail
  refine (collect_any w1 114 _ B.cs.length (valid_cps HV.out).1 (fun xs => xs = (M.filter fun y => mineB x.nm y.1).filter fun y => !y.1.en && misB B x y.1) (enters_of Tryz.func114 (by kernel_rfl) rfl) (fun wl hbl hzl => ?_)).mono ?_
  · exact live_passes lo m _ _ _ B x n d lk wl 5 (by decide) (fun k => k = w1.heap.size ∨ w1.heap.size + 6 ≤ k) w0 _ _ (misB B x) 109 (.agg lk.toArray) M HM.out HL.out ((bt H0.out HB1.out).trans (hbl.mono (by have := H0.out.size; have := HB1.out.size; omega))) HK.out HV.out
      (fun k hk => by have := H0.out.size; omega) (by omega) (by omega) (w1.heap.size + 1 + 2) (by omega) (by omega) (F1.out.on hbl) (F2.out.on hbl) (enters_of Tryz.func109 (by kernel_rfl) rfl)
      (fun W y hW => isMis_any lo m _ _ _ B x n d lk y.1 W HL.out (HK.out.below hW) (HX.out.below hW) y.2 HU.out)
  · rintro e w2 ⟨v, xs, rfl, rfl, hr, hb2⟩
    have HLen : Hid ((((M.filter fun y => mineB x.nm y.1).filter fun y => !y.1.en && misB B x y.1).length : Int) = sh3 B x) := by
      unfold Hid sh3 misL
      rw [sub_len HM.out x.nm (misB B x)]
    obtain ⟨a, k, rfl⟩ : ∃ a k, v = .slice a ((M.filter fun y => mineB x.nm y.1).filter fun y => !y.1.en && misB B x y.1).length k := by
      rcases hr.2 with ⟨rfl, h0⟩ | ⟨g, cap, cur, rfl, -⟩
      · rw [List.length_map] at h0
        exact ⟨none, 0, by rw [h0]⟩
      · rw [List.length_map]
        exact ⟨_, _, rfl⟩
    generalize ((M.filter fun y => mineB x.nm y.1).filter fun y => !y.1.en && misB B x y.1).length = q at *
    have HB2 := hide (bt HB1.out hb2)
    clear hb2 hr
    go_wp2
    go_ret
    exact ⟨by rw [HLen.out]; rfl, HB2.out⟩
end
end Go.Proofs.YtemggnmooiaokaaGreat
