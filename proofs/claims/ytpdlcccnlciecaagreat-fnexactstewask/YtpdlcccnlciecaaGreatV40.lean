import Derived.Test.YtpdlcccnlciecaaGreatV38
import Derived.Test.YtpdlcccnlciecaaGreatV39
namespace Go.Proofs.YtpdlcccnlciecaaGreat
open Go.RowKit Go.Deep Go.Shelf

attribute [local go_sem] Oper.semAt_some
variable {Pq : Cp → Prop}

theorem Tryz.infoCpy : (Tryz.prog.info? 82).map (fun i => (i.zero, i.size, i.bytes)) = some (some (.agg #[.string ⟨#[]⟩, .int .i64 0, .int .i64 0, .int .i64 0, .int .i64 0, .bool false, .string ⟨#[]⟩]), 7, 72) := by kernel_rfl
theorem owns_blk {w w' : World} {base : Nat} {e : TypeId} {sz n : Nat} {v : Value} {xs : List Value} (h : w.ownsRow base e sz v n xs) (hb : ∀ g o, base ≤ g → w.heap[g]? = some o → o.isCells = true → w'.heap[g]? = some o) : w'.ownsRow base e sz v n xs := by
  obtain ⟨h1, h2 | ⟨g, cap, cur, h3, h4, h5, h6⟩⟩ := h
  · exact ⟨h1, Or.inl h2⟩
  · exact ⟨h1, Or.inr ⟨g, cap, cur, h3, h4, hb g _ h4 h5 rfl, h6⟩⟩
theorem KeepsBut.row {S : Nat → Prop} {B : Nat} {W W' : World} {row : Option Nat} (h : W.grownBy W' row) (hS : ∀ r, row = some r → S r) : KeepsBut S B W W' :=
  ⟨h.os, h.tape, h.output, h.size, fun k _ hk hs _ => (h.block k (Array.getElem?_eq_some_iff.1 hk).1 (fun e => hs (hS k e.symm))).trans hk⟩
theorem KeepsOthers.row {W W' : World} {row : Option Nat} (h : W.grownBy W' row) (hr : ∀ r, row = some r → ∃ o : Obj, W.heap[r]? = some o ∧ o.isCells = true) : KeepsOthers W W' :=
  ⟨h.size, fun k o hk hc => (h.block k (Array.getElem?_eq_some_iff.1 hk).1 (fun e => by
    obtain ⟨o', ho', hc'⟩ := hr k e.symm
    rw [hk] at ho'
    cases ho'
    rw [hc] at hc'
    cases hc')).trans hk⟩
theorem owns_isCells {w : World} {base : Nat} {e : TypeId} {sz n : Nat} {v : Value} {xs : List Value} (h : w.ownsRow base e sz v n xs) : ∀ r, v.ownBlock = some r → base ≤ r ∧ ∃ o : Obj, w.heap[r]? = some o ∧ o.isCells = true := fun r hr => by
  obtain ⟨-, ⟨rfl, -⟩ | ⟨g, cap, cur, rfl, h4, h5, -⟩⟩ := h
  · cases hr
  · cases hr
    exact ⟨h4, _, h5, rfl⟩
theorem Box.row {X Y : World} {β base : Nat} {cs : Array Value} {e : TypeId} {sz n : Nat} {v : Value} {xs : List Value} (h : Box X β cs) (ho : X.ownsRow base e sz v n xs) (hg : X.grownBy Y v.ownBlock) (hb : β < base) : Box Y β cs :=
  h.ofBlk (hg.block _ h.lt (fun e => by have := (owns_isCells ho β e.symm).1; omega))
/-- copies that were gathered, in a row of one's own -/
def CRow (w : World) (base : Nat) (v : Value) (L : List Cp) : Prop := w.ownsRow base 82 7 v L.length (flatV cpL L)
theorem CRow.snoc {w : World} {base : Nat} {v : Value} {L : List Cp} {c : Cp} (h : w.ownsRow base 82 7 v (L.length + 1) (flatV cpL L ++ cpL c)) : CRow w base v (L ++ [c]) := by
  unfold CRow
  rw [flatV_app, List.length_append]
  simpa [flatV] using h
/-- the world while copies are gathered -/
structure CoW (w : World) (base Z : Nat) (L : List Cp) (X : World) : Prop where
  row : ∃ v, Box X w.heap.size #[v] ∧ CRow X base v L
  below : Below w.heap.size w X
  big : Z ≤ X.heap.size
theorem CoW.grow {w : World} {base Z : Nat} {L : List Cp} {X Y : World} {row : Option Nat} (h : CoW w base Z L X) (hg : X.grownBy Y row) (hr : ∀ r, row = some r → Z ≤ r ∧ ∃ o : Obj, X.heap[r]? = some o ∧ o.isCells = false) (hw : w.heap.size < Z) : CoW w base Z L Y := by
  obtain ⟨v, hb, ho⟩ := h.row
  refine ⟨⟨v, hb.ofBlk (hg.block _ hb.lt (fun e => by have := (hr _ e.symm).1; omega)), owns_blk ho (fun g o _ hgo hc => (hg.block g (Array.getElem?_eq_some_iff.1 hgo).1 (fun e => ?_)).trans hgo)⟩,
    h.below.trans ⟨hg.os, hg.tape, hg.output, hg.size, fun j hj => hg.block j (Nat.lt_of_lt_of_le hj h.below.size) (fun e => by have := (hr _ e.symm).1; omega)⟩, Nat.le_trans h.big hg.size⟩
  obtain ⟨-, o', ho', hc'⟩ := hr g e.symm
  rw [hgo] at ho'
  cases ho'
  rw [hc] at hc'
  cases hc'

set_option maxRecDepth 100000 in
set_option maxHeartbeats 8000000 in
theorem appendSeq_any (w : World) (gf : Nat) (lb : Array Value) (N : Nat) (hN : N ≤ 200) (Sx : List (CpP Pq) → Prop) (eg : ∀ args W, (callFunc gf args).run Tryz.prog W = .ok (.enter gf args) W)
    (hseq : ∀ wl : World, Below w.heap.size w wl → wl.heap.size = w.heap.size + 1 → Passes 5 Tryz.prog gf lb encL (KeepsBut (fun k => k = w.heap.size ∨ w.heap.size + 6 ≤ k) wl.heap.size) Sx N wl (w.heap.size + 1 + 2) 3) :
    Calls Tryz.prog 141 #[.slice none 0 0, .func (.func gf) #[] lb] w fun e w' => ∃ v xs, e = .returned v ∧ Sx xs ∧ CRow w' w.heap.size v (xs.map (·.1)) ∧ Below w.heap.size w w' := by
  obtain ⟨i1, hi1, hz1, hy1, hx1⟩ := info_parts Tryz.infoCpy
  have HI1 := hide (And.intro hi1 (And.intro hz1 (And.intro hy1 hx1)))
  have HQ := hide hseq
  clear hi1 hz1 hy1 hx1 hseq
  refine (callsIn_wide (n := 6)).1 ?_
  refine callsIn_of_wp_marks Tryz.func141 rfl trivial ?_ rfl
  simp only [Tryz.ntmps141, List.size_toArray, List.length_cons, List.length_nil, Nat.reduceAdd, Nat.reduceSub, Array.replicate_succ, Array.replicate_zero, List.push_toArray, List.append_toArray, List.nil_append, List.cons_append]
  gi_wp2_with fail
  generalize hwl : w.alloc _ = wl
  have HBl : Hid (Below w.heap.size w wl) := by unfold Hid; rw [← hwl]; exact one_al w _
  have FB : Hid (Box wl w.heap.size #[.slice none 0 0]) := by unfold Hid; rw [← hwl]; exact Box.new _ _ _ _ rfl
  have hsz : wl.heap.size = w.heap.size + 1 := by rw [← hwl]; simp
  clear hwl
  have HS2 : Passes 5 Tryz.prog gf lb encL (KeepsBut (fun k => k = w.heap.size ∨ w.heap.size + 6 ≤ k) wl.heap.size) Sx N wl (wl.heap.size + 2) 3 := by have := HQ.out wl HBl.out hsz; rw [← hsz] at this; exact this
  refine range_pass (by decide) (gf := gf) (lb := lb) rfl eg HS2
    KeepsBut.trans KeepsBut.put (Below.refl _ _) (fun _ => rfl)
    (fun pre X => CoW w (w.heap.size + 6) wl.heap.size (pre.map fun y : CpP Pq => y.1) X)
    (fun s X Y row hs hg hr => hs.grow hg hr (by omega))
    ⟨⟨_, FB.out, rfl, Or.inl ⟨rfl, rfl⟩⟩, HBl.out, Nat.le_refl _⟩
    (fun y a' X => ∃ β : Nat, wl.heap.size ≤ β ∧ a' = { tmps := #[.slice none 0 0, .func (.func gf) #[] lb, .pointer (some ⟨w.heap.size, 0, none⟩), undef, .slice none 0 0, .pointer (some ⟨β, 0, none⟩), .func (.func gf) #[] lb, .agg #[.string y.1.se, .int .i64 y.1.nu, .int .i64 y.1.ve, .int .i64 y.1.im, .int .i64 y.1.st, .bool y.1.en, .string y.1.be], undef, undef, undef, undef, undef], defers := [] } ∧ Box X β #[.string y.1.se, .int .i64 y.1.nu, .int .i64 y.1.ve, .int .i64 y.1.im, .int .i64 y.1.st, .bool y.1.en, .string y.1.be])
    (fun y a' s X Y row hs hg hr => by
      obtain ⟨β, hβ, e1, e2⟩ := hs
      exact ⟨β, hβ, e1, e2.ofBlk (hg.block _ e2.lt (fun e => by
        obtain ⟨-, o, ho, hc⟩ := hr _ e.symm
        obtain ⟨o', ho', hc'⟩ := cells_of_cell (e2.cell 0)
        rw [ho] at ho'
        cases ho'
        rw [hc] at hc'
        cases hc'))⟩) ?assign ?body ?done
  case assign =>
    intro l pre y X hI
    have HI := hide hI
    have hbg := hI.big
    clear hI
    gi_wp2
    exact ⟨(KeepsOthers.alloc _ _).from _, KeepsBut.grow (World.grownBy_alloc _ _ none), HI.out.grow (World.grownBy_alloc _ _ none) (fun r e => by cases e) (by omega), X.heap.size, hbg, rfl, Box.new _ _ _ _ rfl⟩
  case body =>
    rintro l pre y a' X hll hrec hI ⟨β, hβ, rfl, hY2⟩ hlen hzb
    obtain ⟨v, hbv, hrow⟩ := hI.row
    have HB := hide hI.below
    have hbg := hI.big
    have FV := hide hbv
    have HR := hide hrow
    have b0 := hbv.cell 0
    have yc := hY2.cell
    have hvf : ∀ i, X.frozen? ⟨w.heap.size, i, none⟩ = false := hbv.free
    simp at b0
    clear hI hbv hrow hY2 hrec
    have hpl : (pre.map fun y : CpP Pq => y.1).length ≤ 200 := by simp; omega
    have HRo : Hid (∀ o, (X.alloc o).ownsRow (w.heap.size + 6) 82 7 v (pre.map fun y : CpP Pq => y.1).length (flatV cpL (pre.map fun y : CpP Pq => y.1))) := fun o => ownsB_on (show X.ownsRow _ _ _ _ _ _ from HR.out) (one_al _ o)
    have HC1 : Hid (∀ u ∈ cpL y.1, u.oneCell' = true) := fun u hu => by
      unfold cpL at hu
      simp only [List.mem_cons, List.not_mem_nil, or_false] at hu
      rcases hu with rfl | rfl | rfl | rfl | rfl | rfl | rfl <;> rfl
    have HCA : Hid (∀ t, ∀ j u, (cpL y.1)[j]? = some u → (X.alloc (.cells #[.string y.1.se, .int .i64 y.1.nu, .int .i64 y.1.ve, .int .i64 y.1.im, .int .i64 y.1.st, .bool y.1.en, .string y.1.be] t)).cell? ((⟨X.heap.size, 0, none⟩ : Addr).add j) = some u) := fun t => cells_at (Box.new _ _ _ _ rfl) rfl _ rfl
    gi_wp2_with (gi_at_builtin; refine wpListIn_append_own _ rfl (.tmp 8) (.tmp 10) 31 rfl (w.heap.size + 6) 82 i1 (.agg #[.string ⟨#[]⟩, .int .i64 0, .int .i64 0, .int .i64 0, .int .i64 0, .bool false, .string ⟨#[]⟩]) 7 72 Tryz.underlying31 HI1.out.1 HI1.out.2.1 HI1.out.2.2.1 HI1.out.2.2.2 rfl (by decide) v (pre.map fun y : CpP Pq => y.1).length (flatV cpL (pre.map fun y : CpP Pq => y.1)) rfl (HRo.out _) ⟨X.heap.size, 0, none⟩ 1 1 (cpL y.1) rfl rfl (HCA.out _) HC1.out (by unfold maxLen; omega) (by omega) (by simp; omega) ?_; intro v' X2 hown2 hgrow2 hnil2; obtain ⟨g2, cap2, rfl⟩ := ownsRow_succ hown2; have FV2 := hide ((FV.out.on (one_al _ _)).row (HRo.out _) hgrow2 (by omega)); have d0 := FV2.out.cell 0; have df := FV2.out.free 0; simp at d0; have HO2 := hide hown2; have HG2 := hide hgrow2; clear hown2 hgrow2 hnil2)
    have HO3 : Hid (CRow X2 (w.heap.size + 6) (.slice (some ⟨g2, 0, none⟩) (pre.length + 1) cap2) ((pre ++ [y]).map fun y : CpP Pq => y.1)) := by
      unfold Hid
      rw [List.map_append]
      refine CRow.snoc ?_
      have := HO2.out
      rw [List.length_map] at this ⊢
      exact this
    have hx2 := HG2.out.size
    rw [World.size_alloc] at hx2
    refine ⟨(((KeepsOthers.alloc _ _).trans (KeepsOthers.row HG2.out (fun r e => (owns_isCells (HRo.out _) r e).2))).trans (KeepsOthers.setCell _ _ _)).from _,
      ((KeepsBut.grow (World.grownBy_alloc _ _ none)).trans (KeepsBut.row HG2.out (fun r e => Or.inr (owns_isCells (show X.ownsRow _ _ _ _ _ _ from HR.out) r e).1))).trans (KeepsBut.set _ _ _ (Or.inl rfl)), ⟨_, FV2.out.set (k := 0) _ (by simp), ?_⟩, ?_, ?_⟩
    · exact owns_blk HO3.out (fun g o hg ho _ => (Below.heap_setCell _ _ _ g (by simp only []; omega)).trans ho)
    · exact ((bt HB.out (one_al _ _)).trans ((ownsB_grown (HRo.out _) HG2.out (by simp; omega)).mono (by omega))).setCell (Nat.le_refl _) _
    · simp [World.setCell]
      omega
  case done =>
    rintro Dd ys X hD hS hI hKd
    obtain ⟨v, hbv, hrow⟩ := hI.row
    have HB := hide hI.below
    have HR := hide hrow
    have b0 := hbv.cell 0
    simp at b0
    have HS := hide hS
    have hbg := hI.big
    clear hI hrow hbv hS
    gi_wp2
    refine ⟨by simp, .inl ⟨_, _, rfl, run_takeDeferred hKd, ?_⟩⟩
    refine ⟨_, results_tmp rfl _ _ _, _, ys, rfl, HS.out, ?_, HB.out.trans (belowK_b (w := w) (Nat.le_refl _) X Dd _ _ (by omega) hKd rfl rfl)⟩
    have h2 : CRow (X.putObj Dd (.deferred none)) (w.heap.size + 6) v (ys.map fun y : CpP Pq => y.1) := owns_blk HR.out (fun g o hg ho hc => (World.putObj_heap_other (fun e => by
      subst e
      rw [hKd] at ho
      cases ho
      cases hc)).trans ho)
    obtain ⟨h1, h2 | ⟨g, cap, cur, h3, h4, h5⟩⟩ := h2
    · exact ⟨h1, Or.inl h2⟩
    · exact ⟨h1, Or.inr ⟨g, cap, cur, h3, by omega, h5⟩⟩

set_option maxRecDepth 100000 in
set_option maxHeartbeats 8000000 in
theorem collect_any (w : World) (gf : Nat) (lb : Array Value) (N : Nat) (hN : N ≤ 200) (Sx : List (CpP Pq) → Prop) (eg : ∀ args W, (callFunc gf args).run Tryz.prog W = .ok (.enter gf args) W)
    (hseq : ∀ wl : World, Below w.heap.size w wl → wl.heap.size = w.heap.size + 1 → Passes 5 Tryz.prog gf lb encL (KeepsBut (fun k => k = w.heap.size ∨ w.heap.size + 6 ≤ k) wl.heap.size) Sx N wl (w.heap.size + 1 + 2) 3) :
    Calls Tryz.prog 133 #[.func (.func gf) #[] lb] w fun e w' => ∃ v xs, e = .returned v ∧ Sx xs ∧ CRow w' w.heap.size v (xs.map (·.1)) ∧ Below w.heap.size w w' := by
  have HA := hide (appendSeq_any w gf lb N hN Sx eg hseq)
  clear hseq
  go_enter Tryz.func133, Tryz.ntmps133
  go_wp2_with fail
  refine HA.out.mono ?_
  rintro e w1 ⟨v, xs, rfl, hs, hr, hb⟩
  have H1 := hide hs
  have H2 := hide hr
  have H3 := hide hb
  clear hs hr hb
  go_wp2
  go_ret
  exact ⟨_, _, rfl, H1.out, H2.out, H3.out⟩
end Go.Proofs.YtpdlcccnlciecaaGreat
namespace Go.Proofs.YtpdlcccnlciecaaGreat
open Go.RowKit Go.Deep

structure AcSize (x : Ac) : Prop where
  s0 : x.sv.size ≤ maxLen
structure AcCells (w : World) (b o : Nat) (x : Ac) (vv0 : Value) : Prop where
  c0 : w.cell? ⟨b, o, none⟩ = some (.string x.sv)
  c1 : w.cell? ⟨b, o + 1, none⟩ = some (.int .i64 x.sn)
  c2 : w.cell? ⟨b, o + 2, none⟩ = some (.int .i64 x.cr)
  c3 : w.cell? ⟨b, o + 3, none⟩ = some (.int .i64 x.wa)
  c4 : w.cell? ⟨b, o + 4, none⟩ = some (.int .i64 x.cl)
  c5 : w.cell? ⟨b, o + 5, none⟩ = some (.bool x.sc)
  c6 : w.cell? ⟨b, o + 6, none⟩ = some vv0
  c7 : w.cell? ⟨b, o + 7, none⟩ = some (.bool x.dp)
theorem AcCells.below {w w' : World} {b o : Nat} {x : Ac} {vv0 : Value} (h : AcCells w b o x vv0) {m : Nat} (hb : Below m w w') (hlt : b < m) : AcCells w' b o x vv0 := by
  have e : ∀ o, w'.cell? ⟨b, o, none⟩ = w.cell? ⟨b, o, none⟩ := fun o => hb.cell (p := ⟨b, o, none⟩) hlt
  exact ⟨by rw [e]; exact h.c0, by rw [e]; exact h.c1, by rw [e]; exact h.c2, by rw [e]; exact h.c3, by rw [e]; exact h.c4, by rw [e]; exact h.c5, by rw [e]; exact h.c6, by rw [e]; exact h.c7⟩
theorem AcCells.rng {w : World} {b o : Nat} {x : Ac} {a : Option Addr} {k : Nat} (h : AcCells w b o x (.slice a x.es.length k)) : w.rangeAt b o (acV x a k) := fun j v hv => by
  match j, hv with
  | 0, hv => cases hv; exact h.c0
  | 1, hv => cases hv; exact h.c1
  | 2, hv => cases hv; exact h.c2
  | 3, hv => cases hv; exact h.c3
  | 4, hv => cases hv; exact h.c4
  | 5, hv => cases hv; exact h.c5
  | 6, hv => cases hv; exact h.c6
  | 7, hv => cases hv; exact h.c7
theorem EnsOwn.near {b o n d0 d1 lo hi : Nat} {w w' : World} {v : Value} {Xl : List En} (h : EnsOwn lo hi w v Xl) (hn : Near b o n d0 d1 w w') (hi' : hi ≤ d0 ∨ d1 ≤ lo) (hb : b < lo ∨ hi ≤ b) : EnsOwn lo hi w' v Xl := by
  rcases h with h | ⟨b', off, cap, c, X, h1, h2, h3, h4, h5, h6⟩
  · exact Or.inl h
  · refine Or.inr ⟨b', off, cap, c, X, h1, h2, h3, h4, h5, ?_⟩
    have k1 := h6.low
    have k2 := h6.bh
    have hbk : w'.heap[b']? = w.heap[b']? := hn.block b' h6.lt (by omega) (by omega)
    have e : ∀ i, w'.cell? ⟨b', i, none⟩ = w.cell? ⟨b', i, none⟩ := fun i => World.cell?_of_block hbk
    refine ⟨Nat.lt_of_lt_of_le h6.lt hn.size, h6.low, h6.bc, h6.bh, h6.mono, h6.top, fun i => (World.frozen?_of_block hbk).trans (h6.frz i), fun i hi'' => ?_⟩
    obtain ⟨hs, hc⟩ := h6.row i hi''
    obtain ⟨q0, q1⟩ := hc
    exact ⟨hs, (e _).trans q0, (e _).trans q1⟩
theorem posEn_two (L : List En) : ∀ i, i ≤ L.length → posEn L i = 2 * i := by
  intro i
  induction i with
  | zero => intro _; simp [posEn]
  | succ i ih =>
    intro h
    rw [posEn_succ (by omega), ih (by omega)]
    unfold wdEn
    omega
theorem posEn_all2 (L : List En) : posEn L L.length = 2 * L.length := posEn_two L _ (Nat.le_refl _)
def AcOne (b o c0 c1 : Nat) (w : World) (x : Ac) : Prop := AcSize x ∧ ∃ (vv0 : Value), c0 ≤ c1 ∧ AcCells w b o x vv0 ∧ EnsOwn c0 c1 w vv0 x.es
theorem AcOne.near {b o c0 c1 o1 d0 d1 : Nat} {w w' : World} {x : Ac} (h : AcOne b o c0 c1 w x) (hn : Near b o1 8 d0 d1 w w') (ho : o + 8 ≤ o1 ∨ o1 + 8 ≤ o) (hi : c1 ≤ d0 ∨ d1 ≤ c0) (hb : b < c0 ∨ c1 ≤ b) : AcOne b o c0 c1 w' x := by
  obtain ⟨hs, vv0, q0, hc, l0⟩ := h
  obtain ⟨h0, h1, h2, h3, h4, h5, h6, h7⟩ := hc
  have e : ∀ t, t < 8 → w'.cell? ⟨b, o + t, none⟩ = w.cell? ⟨b, o + t, none⟩ := fun t ht => hn.cell _ (by omega)
  have e0 : w'.cell? ⟨b, o, none⟩ = w.cell? ⟨b, o, none⟩ := hn.cell _ (by omega)
  exact ⟨hs, vv0, q0, ⟨e0.trans h0, (e 1 (by omega)).trans h1, (e 2 (by omega)).trans h2, (e 3 (by omega)).trans h3, (e 4 (by omega)).trans h4, (e 5 (by omega)).trans h5, (e 6 (by omega)).trans h6, (e 7 (by omega)).trans h7⟩, l0.near hn (by omega) (by omega)⟩
theorem AcOne.touch {b o c0 c1 : Nat} {lo hi : Nat} {w w' : World} {x : Ac} (h : AcOne b o c0 c1 w x) (ht : Touch lo hi w w') (hlt : b < w.heap.size) (hb : b < lo ∨ hi ≤ b) (hi' : c1 ≤ lo ∨ hi ≤ c0) : AcOne b o c0 c1 w' x := by
  obtain ⟨hs, vv0, q0, hc, l0⟩ := h
  obtain ⟨h0, h1, h2, h3, h4, h5, h6, h7⟩ := hc
  exact ⟨hs, vv0, q0, ⟨(ht.cell (p := ⟨b, o, none⟩) hlt hb).trans h0, (ht.cell (p := ⟨b, o + 1, none⟩) hlt hb).trans h1, (ht.cell (p := ⟨b, o + 2, none⟩) hlt hb).trans h2, (ht.cell (p := ⟨b, o + 3, none⟩) hlt hb).trans h3, (ht.cell (p := ⟨b, o + 4, none⟩) hlt hb).trans h4, (ht.cell (p := ⟨b, o + 5, none⟩) hlt hb).trans h5, (ht.cell (p := ⟨b, o + 6, none⟩) hlt hb).trans h6, (ht.cell (p := ⟨b, o + 7, none⟩) hlt hb).trans h7⟩, l0.touch ht (by omega)⟩
theorem AcOne.below {b o c0 c1 : Nat}  {w w' : World} {x : Ac} (h : AcOne b o c0 c1 w x) (ht : Below w.heap.size w w') (hlt : b < w.heap.size) : AcOne b o c0 c1 w' x := by
  obtain ⟨hs, vv0, q0, hc, l0⟩ := h
  obtain ⟨h0, h1, h2, h3, h4, h5, h6, h7⟩ := hc
  exact ⟨hs, vv0, q0, ⟨(ht.cell (p := ⟨b, o, none⟩) hlt).trans h0, (ht.cell (p := ⟨b, o + 1, none⟩) hlt).trans h1, (ht.cell (p := ⟨b, o + 2, none⟩) hlt).trans h2, (ht.cell (p := ⟨b, o + 3, none⟩) hlt).trans h3, (ht.cell (p := ⟨b, o + 4, none⟩) hlt).trans h4, (ht.cell (p := ⟨b, o + 5, none⟩) hlt).trans h5, (ht.cell (p := ⟨b, o + 6, none⟩) hlt).trans h6, (ht.cell (p := ⟨b, o + 7, none⟩) hlt).trans h7⟩, l0.below ht⟩
structure AcRow (lo hi : Nat) (w : World) (b off n : Nat) (c : Nat → Nat × Nat) (X : Nat → Ac) : Prop where
  lt : b < w.heap.size
  low : lo ≤ b
  bh : b < hi
  seg : ∀ i, i < n → lo ≤ (c i).1 ∧ (c i).2 ≤ hi ∧ (b < (c i).1 ∨ (c i).2 ≤ b)
  mono : ∀ i j, i < j → j < n → (c i).2 ≤ (c j).1
  frz : ∀ i, w.frozen? ⟨b, i, none⟩ = false
  row : ∀ i, i < n → AcOne b (off + i * 8) (c i).1 (c i).2 w (X i)
theorem AcRow.near {lo hi : Nat} {w w' : World} {b off n : Nat} {c : Nat → Nat × Nat} {X : Nat → Ac} (h : AcRow lo hi w b off n c X) {j : Nat} (hj : j < n) (hn : Near b (off + j * 8) 8 (c j).1 (c j).2 w w') {x : Ac} (hx : AcOne b (off + j * 8) (c j).1 (c j).2 w' x) : AcRow lo hi w' b off n c (fun i => if i = j then x else X i) := by
  refine ⟨Nat.lt_of_lt_of_le h.lt hn.size, h.low, h.bh, h.seg, h.mono, fun i => (hn.frz i).trans (h.frz i), fun i hi' => ?_⟩
  by_cases e : i = j
  · subst e; rw [if_pos rfl]; exact hx
  · rw [if_neg e]
    refine (h.row i hi').near hn (by omega) ?_ (h.seg i hi').2.2
    rcases Nat.lt_or_ge i j with hij | hij
    · exact Or.inl (h.mono i j hij hj)
    · exact Or.inr (h.mono j i (by omega) hi')
theorem AcRow.touch {lo hi lo' hi' : Nat} {w w' : World} {b off n : Nat} {c : Nat → Nat × Nat} {X : Nat → Ac} (h : AcRow lo hi w b off n c X) (ht : Touch lo' hi' w w') (ho : hi ≤ lo' ∨ hi' ≤ lo) : AcRow lo hi w' b off n c X := by
  have h1 := h.low
  have h2 := h.bh
  refine ⟨Nat.lt_of_lt_of_le h.lt ht.size, h.low, h.bh, h.seg, h.mono, fun i => (ht.frozen (p := ⟨b, i, none⟩) h.lt (by simp only []; omega)).trans (h.frz i), fun i hi' => ?_⟩
  have h5 := h.seg i hi'
  exact (h.row i hi').touch ht h.lt (by omega) (by omega)
theorem AcRow.below {lo hi : Nat} {w w' : World} {b off n : Nat} {c : Nat → Nat × Nat} {X : Nat → Ac} (h : AcRow lo hi w b off n c X) (ht : Below w.heap.size w w') : AcRow lo hi w' b off n c X :=
  ⟨Nat.lt_of_lt_of_le h.lt ht.size, h.low, h.bh, h.seg, h.mono, fun i => (ht.frozen (p := ⟨b, i, none⟩) h.lt).trans (h.frz i), fun i hi' => (h.row i hi').below ht h.lt⟩
theorem AcRow.to {lo hi : Nat} {w : World} {b off n : Nat} {c : Nat → Nat × Nat} {X Y : Nat → Ac} (h : AcRow lo hi w b off n c X) (e : ∀ i, i < n → X i = Y i) : AcRow lo hi w b off n c Y :=
  ⟨h.lt, h.low, h.bh, h.seg, h.mono, h.frz, fun i hi' => e i hi' ▸ h.row i hi'⟩
/-- a list of one's own -/
def AcsOwn (lo hi : Nat) (w : World) (v : Value) (Xl : List Ac) : Prop :=
  (∃ (a : Option Addr) (cap : Nat), v = .slice a 0 cap ∧ Xl = []) ∨
  ∃ (b off cap : Nat) (c : Nat → Nat × Nat) (X : Nat → Ac), v = .slice (some ⟨b, off, none⟩) Xl.length cap ∧ Xl ≠ [] ∧ Xl.length ≤ maxLen ∧ Xl.length ≤ cap ∧ (∀ i (h : i < Xl.length), X i = Xl[i]) ∧ AcRow lo hi w b off Xl.length c X
theorem AcsOwn.touch {lo hi lo' hi' : Nat} {w w' : World} {v : Value} {Xl : List Ac} (h : AcsOwn lo hi w v Xl) (ht : Touch lo' hi' w w') (ho : hi ≤ lo' ∨ hi' ≤ lo) : AcsOwn lo hi w' v Xl := by
  rcases h with h | ⟨b, off, cap, c, X, h1, h2, h3, h4, h5, h6⟩
  · exact Or.inl h
  · exact Or.inr ⟨b, off, cap, c, X, h1, h2, h3, h4, h5, h6.touch ht ho⟩
theorem AcsOwn.below {lo hi : Nat} {w w' : World} {v : Value} {Xl : List Ac} (h : AcsOwn lo hi w v Xl) (ht : Below w.heap.size w w') : AcsOwn lo hi w' v Xl := by
  rcases h with h | ⟨b, off, cap, c, X, h1, h2, h3, h4, h5, h6⟩
  · exact Or.inl h
  · exact Or.inr ⟨b, off, cap, c, X, h1, h2, h3, h4, h5, h6.below ht⟩
theorem AcsOwn.form {lo hi : Nat} {w : World} {v : Value} {Xl : List Ac} (h : AcsOwn lo hi w v Xl) : ∃ a cap, v = .slice a Xl.length cap := by
  rcases h with ⟨a, cap, h, rfl⟩ | ⟨b, off, cap, c, X, h1, _⟩
  · exact ⟨a, cap, h⟩
  · exact ⟨_, cap, h1⟩
theorem AcsOwn.at {lo hi : Nat} {w : World} {v : Value} {Xl : List Ac} (h : AcsOwn lo hi w v Xl) : AcsAt lo w v Xl := by
  rcases h with h | ⟨b, off, cap, c, X, h1, h2, h3, h4, h5, h6⟩
  · exact Or.inl h
  · refine Or.inr ⟨b, off, cap, h1, h2, h3, h6.lt, h6.low, h4, fun i hi' => ?_⟩
    have hr := h6.row i hi'
    have g0 := h6.seg i hi'
    rw [h5 i hi'] at hr
    obtain ⟨hs, vv0, q0, hc, l0⟩ := hr
    obtain ⟨a0, k0, rfl⟩ := l0.form
    exact ⟨_, hc.rng, a0, k0, rfl, l0.at.mono (by omega), hs.s0⟩
/-- marks from k on -/
def mkAc (k : Int) (x : Ac) : Ac := ⟨mtB (k), k + 1, k + 1 + 1, k + 1 + 1 + 1, k + 1 + 1 + 1 + 1, ((k + 1 + 1 + 1 + 1 + 1) % 3 == 0), mkEns (k + 1 + 1 + 1 + 1 + 1 + 1) x.es, ((k + 1 + 1 + 1 + 1 + 1 + 1 + 2 * x.es.length) % 3 == 0)⟩
def wdAc (x : Ac) : Nat := 7 + 2 * x.es.length
def posAc (Xl : List Ac) (i : Nat) : Nat := ((Xl.take i).map wdAc).sum
def mkAcs (k : Int) (Xl : List Ac) : List Ac := Xl.mapIdx (fun i x => mkAc (k + (posAc Xl i : Int)) x)
theorem mkAcs_len (k : Int) (Xl : List Ac) : (mkAcs k Xl).length = Xl.length := by unfold mkAcs; simp
theorem mkAcs_get (k : Int) (Xl : List Ac) (i : Nat) (h : i < (mkAcs k Xl).length) (h' : i < Xl.length) : (mkAcs k Xl)[i] = mkAc (k + (posAc Xl i : Int)) Xl[i] := List.getElem_mapIdx (f := fun i x => mkAc (k + (posAc Xl i : Int)) x) (h := h)
theorem posAc_succ {Xl : List Ac} {i : Nat} (h : i < Xl.length) : posAc Xl (i + 1) = posAc Xl i + wdAc Xl[i] := by
  unfold posAc
  rw [List.take_succ_eq_append_getElem h, List.map_append, List.sum_append]
  simp
theorem posAc_le {Xl : List Ac} (hn : AcsSmall Xl) : ∀ {i : Nat}, i ≤ Xl.length → posAc Xl i ≤ i * 3000000 := by
  intro i
  induction i with
  | zero => intro _; simp [posAc]
  | succ i ih =>
    intro hi'
    have h1 := ih (by omega)
    rw [posAc_succ (by omega)]
    have h2 : wdAc Xl[i] ≤ 3000000 := by
      have hsm := (hn.2 i (by omega)).1
      unfold wdAc
      omega
    omega
theorem posAc_all {Xl : List Ac} {i : Nat} (h : Xl.length ≤ i) : posAc Xl i = posAc Xl Xl.length := by
  unfold posAc
  rw [List.take_of_length_le h, List.take_of_length_le (Nat.le_refl _)]
structure AcSt (wr : World) (b o c0 c1 : Nat) (vv0 : Value) (v : World) (y : Ac) : Prop where
  near : Near b o 8 c0 c1 wr v
  bc : b < c0 ∨ c1 ≤ b
  q0 : c0 ≤ c1
  cells : AcCells v b o y vv0
  l0 : EnsOwn c0 c1 v vv0 y.es
  frz : ∀ i, v.frozen? ⟨b, i, none⟩ = false
  lt : b < v.heap.size
theorem AcSt.below {wr : World} {b o c0 c1 : Nat} {vv0 : Value} {v v' : World} {y : Ac} (h : AcSt wr b o c0 c1 vv0 v y) (hb : Below v.heap.size v v') : AcSt wr b o c0 c1 vv0 v' y :=
  ⟨h.near.trans (Near.below hb h.lt), h.bc, h.q0, h.cells.below hb h.lt, h.l0.below hb, fun i => (hb.frozen (p := ⟨b, i, none⟩) h.lt).trans (h.frz i), Nat.lt_of_lt_of_le h.lt hb.size⟩
theorem AcSt.s0 {wr : World} {b o c0 c1 : Nat} {vv0 : Value} {v : World} {y : Ac} (h : AcSt wr b o c0 c1 vv0 v y) (u : ByteArray) : AcSt wr b o c0 c1 vv0 (v.setCell ⟨b, o, none⟩ (.string u)) { y with sv := u } := by
  obtain ⟨h0, h1, h2, h3, h4, h5, h6, h7⟩ := h.cells
  have ht : Touch b (b + 1) v (v.setCell ⟨b, o, none⟩ (.string u)) := Touch.setCell _ _ _ _ _ ⟨Nat.le_refl _, by simp only []; omega⟩
  have hbc := h.bc
  have hq0 := h.q0
  exact ⟨h.near.trans (Near.set _ _ _ _ _ _ _ _ (by omega) (by omega)), h.bc, h.q0, ⟨World.cell?_setCell_same' _ _ _ (by rw [h0]; rfl), (cne (by omega)).trans h1, (cne (by omega)).trans h2, (cne (by omega)).trans h3, (cne (by omega)).trans h4, (cne (by omega)).trans h5, (cne (by omega)).trans h6, (cne (by omega)).trans h7⟩, h.l0.touch ht (by omega), fun i => by rw [World.frozen?_setCell]; exact h.frz i, by simpa [World.setCell] using h.lt⟩
theorem AcSt.s1 {wr : World} {b o c0 c1 : Nat} {vv0 : Value} {v : World} {y : Ac} (h : AcSt wr b o c0 c1 vv0 v y) (u : Int) : AcSt wr b o c0 c1 vv0 (v.setCell ⟨b, o + 1, none⟩ (.int .i64 u)) { y with sn := u } := by
  obtain ⟨h0, h1, h2, h3, h4, h5, h6, h7⟩ := h.cells
  have ht : Touch b (b + 1) v (v.setCell ⟨b, o + 1, none⟩ (.int .i64 u)) := Touch.setCell _ _ _ _ _ ⟨Nat.le_refl _, by simp only []; omega⟩
  have hbc := h.bc
  have hq0 := h.q0
  exact ⟨h.near.trans (Near.set _ _ _ _ _ _ _ _ (by omega) (by omega)), h.bc, h.q0, ⟨(cne (by omega)).trans h0, World.cell?_setCell_same' _ _ _ (by rw [h1]; rfl), (cne (by omega)).trans h2, (cne (by omega)).trans h3, (cne (by omega)).trans h4, (cne (by omega)).trans h5, (cne (by omega)).trans h6, (cne (by omega)).trans h7⟩, h.l0.touch ht (by omega), fun i => by rw [World.frozen?_setCell]; exact h.frz i, by simpa [World.setCell] using h.lt⟩
theorem AcSt.s2 {wr : World} {b o c0 c1 : Nat} {vv0 : Value} {v : World} {y : Ac} (h : AcSt wr b o c0 c1 vv0 v y) (u : Int) : AcSt wr b o c0 c1 vv0 (v.setCell ⟨b, o + 2, none⟩ (.int .i64 u)) { y with cr := u } := by
  obtain ⟨h0, h1, h2, h3, h4, h5, h6, h7⟩ := h.cells
  have ht : Touch b (b + 1) v (v.setCell ⟨b, o + 2, none⟩ (.int .i64 u)) := Touch.setCell _ _ _ _ _ ⟨Nat.le_refl _, by simp only []; omega⟩
  have hbc := h.bc
  have hq0 := h.q0
  exact ⟨h.near.trans (Near.set _ _ _ _ _ _ _ _ (by omega) (by omega)), h.bc, h.q0, ⟨(cne (by omega)).trans h0, (cne (by omega)).trans h1, World.cell?_setCell_same' _ _ _ (by rw [h2]; rfl), (cne (by omega)).trans h3, (cne (by omega)).trans h4, (cne (by omega)).trans h5, (cne (by omega)).trans h6, (cne (by omega)).trans h7⟩, h.l0.touch ht (by omega), fun i => by rw [World.frozen?_setCell]; exact h.frz i, by simpa [World.setCell] using h.lt⟩
theorem AcSt.s3 {wr : World} {b o c0 c1 : Nat} {vv0 : Value} {v : World} {y : Ac} (h : AcSt wr b o c0 c1 vv0 v y) (u : Int) : AcSt wr b o c0 c1 vv0 (v.setCell ⟨b, o + 3, none⟩ (.int .i64 u)) { y with wa := u } := by
  obtain ⟨h0, h1, h2, h3, h4, h5, h6, h7⟩ := h.cells
  have ht : Touch b (b + 1) v (v.setCell ⟨b, o + 3, none⟩ (.int .i64 u)) := Touch.setCell _ _ _ _ _ ⟨Nat.le_refl _, by simp only []; omega⟩
  have hbc := h.bc
  have hq0 := h.q0
  exact ⟨h.near.trans (Near.set _ _ _ _ _ _ _ _ (by omega) (by omega)), h.bc, h.q0, ⟨(cne (by omega)).trans h0, (cne (by omega)).trans h1, (cne (by omega)).trans h2, World.cell?_setCell_same' _ _ _ (by rw [h3]; rfl), (cne (by omega)).trans h4, (cne (by omega)).trans h5, (cne (by omega)).trans h6, (cne (by omega)).trans h7⟩, h.l0.touch ht (by omega), fun i => by rw [World.frozen?_setCell]; exact h.frz i, by simpa [World.setCell] using h.lt⟩
theorem AcSt.s4 {wr : World} {b o c0 c1 : Nat} {vv0 : Value} {v : World} {y : Ac} (h : AcSt wr b o c0 c1 vv0 v y) (u : Int) : AcSt wr b o c0 c1 vv0 (v.setCell ⟨b, o + 4, none⟩ (.int .i64 u)) { y with cl := u } := by
  obtain ⟨h0, h1, h2, h3, h4, h5, h6, h7⟩ := h.cells
  have ht : Touch b (b + 1) v (v.setCell ⟨b, o + 4, none⟩ (.int .i64 u)) := Touch.setCell _ _ _ _ _ ⟨Nat.le_refl _, by simp only []; omega⟩
  have hbc := h.bc
  have hq0 := h.q0
  exact ⟨h.near.trans (Near.set _ _ _ _ _ _ _ _ (by omega) (by omega)), h.bc, h.q0, ⟨(cne (by omega)).trans h0, (cne (by omega)).trans h1, (cne (by omega)).trans h2, (cne (by omega)).trans h3, World.cell?_setCell_same' _ _ _ (by rw [h4]; rfl), (cne (by omega)).trans h5, (cne (by omega)).trans h6, (cne (by omega)).trans h7⟩, h.l0.touch ht (by omega), fun i => by rw [World.frozen?_setCell]; exact h.frz i, by simpa [World.setCell] using h.lt⟩
theorem AcSt.s5 {wr : World} {b o c0 c1 : Nat} {vv0 : Value} {v : World} {y : Ac} (h : AcSt wr b o c0 c1 vv0 v y) (u : Bool) : AcSt wr b o c0 c1 vv0 (v.setCell ⟨b, o + 5, none⟩ (.bool u)) { y with sc := u } := by
  obtain ⟨h0, h1, h2, h3, h4, h5, h6, h7⟩ := h.cells
  have ht : Touch b (b + 1) v (v.setCell ⟨b, o + 5, none⟩ (.bool u)) := Touch.setCell _ _ _ _ _ ⟨Nat.le_refl _, by simp only []; omega⟩
  have hbc := h.bc
  have hq0 := h.q0
  exact ⟨h.near.trans (Near.set _ _ _ _ _ _ _ _ (by omega) (by omega)), h.bc, h.q0, ⟨(cne (by omega)).trans h0, (cne (by omega)).trans h1, (cne (by omega)).trans h2, (cne (by omega)).trans h3, (cne (by omega)).trans h4, World.cell?_setCell_same' _ _ _ (by rw [h5]; rfl), (cne (by omega)).trans h6, (cne (by omega)).trans h7⟩, h.l0.touch ht (by omega), fun i => by rw [World.frozen?_setCell]; exact h.frz i, by simpa [World.setCell] using h.lt⟩
theorem AcSt.s7 {wr : World} {b o c0 c1 : Nat} {vv0 : Value} {v : World} {y : Ac} (h : AcSt wr b o c0 c1 vv0 v y) (u : Bool) : AcSt wr b o c0 c1 vv0 (v.setCell ⟨b, o + 7, none⟩ (.bool u)) { y with dp := u } := by
  obtain ⟨h0, h1, h2, h3, h4, h5, h6, h7⟩ := h.cells
  have ht : Touch b (b + 1) v (v.setCell ⟨b, o + 7, none⟩ (.bool u)) := Touch.setCell _ _ _ _ _ ⟨Nat.le_refl _, by simp only []; omega⟩
  have hbc := h.bc
  have hq0 := h.q0
  exact ⟨h.near.trans (Near.set _ _ _ _ _ _ _ _ (by omega) (by omega)), h.bc, h.q0, ⟨(cne (by omega)).trans h0, (cne (by omega)).trans h1, (cne (by omega)).trans h2, (cne (by omega)).trans h3, (cne (by omega)).trans h4, (cne (by omega)).trans h5, (cne (by omega)).trans h6, World.cell?_setCell_same' _ _ _ (by rw [h7]; rfl)⟩, h.l0.touch ht (by omega), fun i => by rw [World.frozen?_setCell]; exact h.frz i, by simpa [World.setCell] using h.lt⟩
theorem AcSt.m0' {wr : World} {b o c0 c1 : Nat} {vv0 : Value} {v v' : World} {y : Ac} (h : AcSt wr b o c0 c1 vv0 v y) (ht : Touch c0 c1 v v') {L : List En} (hl : EnsOwn c0 c1 v' vv0 L) : AcSt wr b o c0 c1 vv0 v' { y with es := L } := by
  obtain ⟨h0, h1, h2, h3, h4, h5, h6, h7⟩ := h.cells
  have hbc := h.bc
  have hq0 := h.q0
  have hlt := h.lt
  have e : ∀ i, v'.cell? ⟨b, i, none⟩ = v.cell? ⟨b, i, none⟩ := fun i => ht.cell (p := ⟨b, i, none⟩) h.lt (by simp only []; omega)
  exact ⟨h.near.trans (Near.touch ht h.lt (by omega) (by omega) (by omega)), h.bc, h.q0, ⟨(e _).trans h0, (e _).trans h1, (e _).trans h2, (e _).trans h3, (e _).trans h4, (e _).trans h5, (e _).trans h6, (e _).trans h7⟩, hl, fun i => (ht.frozen (p := ⟨b, i, none⟩) h.lt (by simp only []; omega)).trans (h.frz i), Nat.lt_of_lt_of_le h.lt ht.size⟩
end Go.Proofs.YtpdlcccnlciecaaGreat
