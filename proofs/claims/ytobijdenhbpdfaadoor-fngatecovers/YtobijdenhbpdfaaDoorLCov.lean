
import Derived.Test.YtobijdenhbpdfaaDoorD14
import Derived.Test.YtobijdenhbpdfaaDoorQ1
import Derived.Test.YtobijdenhbpdfaaDoorT13
import Derived.Test.YtobijdenhbpdfaaDoorU4
import Derived.Deep.RegionHeldLaw
namespace Go.Proofs.YtobijdenhbpdfaaDoor
open Go.RowKit Go.Deep

theorem CodeIn.max {w : World} {v : Value} {bs : List UInt8} (h : CodeIn w v bs) : bs.length ≤ maxLen := by
  rcases h with ⟨_, _, _, h⟩ | ⟨b, off, cap, h1, h2, h3, _⟩
  · rw [h]; exact Nat.zero_le _
  · exact h3
/-- what FnGateCovers has drawn, and carries -/
structure Lw (w : World) (κ : Nat) (ta : Option Addr) (tcap : Nat) (Ts : List Tm) (sa : Option Addr) (scap : Nat) (Rs : List Ru) (qa : Option Addr) (qcap : Nat) (q : Ru) (W : World) : Prop where
  below : Below w.heap.size w W
  tms : TmsAt w.heap.size W (.slice ta Ts.length tcap) Ts
  rus : RusAt w.heap.size W (.slice sa Rs.length scap) Rs
  ints : IntsIn w.heap.size W (.slice qa q.vb.length qcap) q.vb
  box : Box W κ #[.slice qa q.vb.length qcap, .string q.kd, .string q.tm, .string q.pf]
theorem Lw.on {w W W' : World} {κ tcap scap qcap : Nat} {ta sa qa : Option Addr} {Ts : List Tm} {Rs : List Ru} {q : Ru} (h : Lw w κ ta tcap Ts sa scap Rs qa qcap q W) (hb : Below W.heap.size W W') : Lw w κ ta tcap Ts sa scap Rs qa qcap q W' :=
  ⟨h.below.trans (hb.mono h.below.size), h.tms.below hb, h.rus.below hb, h.ints.below hb, h.box.on hb⟩
theorem cell_drew' (W : World) (a : Addr) : W.drew.cell? a = W.cell? a := rfl
theorem Held1.aldrew2 {W0 : World} {b1 : Nat} {cs1 : Array Value} (h1 : Box W0 b1 cs1) (o o' : Obj) : Held1 W0 b1 cs1 ((W0.alloc o).alloc o').drew := ⟨((h1.on (one_al _ _)).on (one_al _ _)).cell, ((one_al W0 o).alloc (by simp) o').drew, h1.lt⟩
theorem Held1.grow {W0 W W' : World} {b1 : Nat} {cs1 : Array Value} (h : Held1 W0 b1 cs1 W) (hb : Below W0.heap.size W W') : Held1 W0 b1 cs1 W' := by
  have h2 := h.2.out
  exact ⟨fun i => (hb.cell (p := ⟨b1, i, none⟩) h2.2).trans (h.1 i), h2.1.trans hb, h2.2⟩
/-- rules with the headers of their verbs -/
theorem RusAt.pairs {lo : Nat} {w : World} {b off n cap : Nat} {Rs : List Ru} (h : RusAt lo w (.slice (some ⟨b, off, none⟩) n cap) Rs) (hne : 0 < Rs.length) :
    ∃ L : List (Value × Ru), L.map Prod.snd = Rs ∧ (∀ W, Below w.heap.size w W → ∀ j u, (rvs L)[j]? = some u → W.cell? ((⟨b, off, none⟩ : Addr).add j) = some u) ∧ (∀ x ∈ L, IntsIn lo w x.1 x.2.vb ∧ RuSize x.2) ∧ ∀ u ∈ rvs L, u.oneCell' = true := by
  obtain ⟨b', off', e, hbw, hc⟩ := h.full' hne
  injection e with e
  injection e with e1 e2
  subst e1 e2
  have hx : ∀ i, ∃ v : Value, ∀ (h : i < Rs.length), RuSize Rs[i] ∧ RuCells w b (off + i * 4) Rs[i] v ∧ IntsIn lo w v Rs[i].vb := fun i => by
    by_cases hi : i < Rs.length
    · obtain ⟨hs, vv, h1, h2⟩ := hc i hi
      exact ⟨vv, fun _ => ⟨hs, h1, h2⟩⟩
    · exact ⟨.nilIface, fun h => absurd h hi⟩
  obtain ⟨L, hl, hg⟩ : ∃ (L : List (Value × Ru)) (hl : L.length = Rs.length), ∀ i (h : i < L.length), L[i] = ((hx i).choose, Rs[i]'(hl ▸ h)) := ⟨Rs.mapIdx fun i r => ((hx i).choose, r), by simp, fun i h => by simp⟩
  have hsp : ∀ i (h : i < Rs.length), RuSize Rs[i] ∧ RuCells w b (off + i * 4) Rs[i] (hx i).choose ∧ IntsIn lo w (hx i).choose Rs[i].vb := fun i h => (hx i).choose_spec h
  refine ⟨L, ?_, ?_, ?_, ?_⟩
  · refine List.ext_getElem (by simpa using hl) (fun i h1 h2 => ?_)
    rw [List.getElem_map, hg]
  · intro W hb j u hu
    have hj : j < L.length * 4 := by
      have := (List.getElem?_eq_some_iff.1 hu).1
      rw [rvs_len] at this
      exact this
    obtain ⟨i, c, hic, hc4⟩ : ∃ i c, j = i * 4 + c ∧ c < 4 := ⟨j / 4, j % 4, by omega, by omega⟩
    have hil : i < L.length := by omega
    obtain ⟨d0, d1, d2, d3⟩ := rvs_at L i hil
    obtain ⟨_, k, _⟩ := hsp i (by omega)
    rw [hg i hil] at d0 d1 d2 d3
    rw [Go.WideShapes.add_plain, hb.cell (p := ⟨b, off + j, none⟩) hbw]
    subst hic
    rw [← Nat.add_assoc]
    rcases (show c = 0 ∨ c = 1 ∨ c = 2 ∨ c = 3 by omega) with rfl | rfl | rfl | rfl
    · rw [Nat.add_zero] at hu; rw [d0] at hu; cases hu; exact k.c0
    · rw [d1] at hu; cases hu; exact k.c1
    · rw [d2] at hu; cases hu; exact k.c2
    · rw [d3] at hu; cases hu; exact k.c3
  · intro x hx'
    obtain ⟨i, hi, rfl⟩ := List.getElem_of_mem hx'
    rw [hg i hi]
    exact ⟨(hsp i (by omega)).2.2, (hsp i (by omega)).1⟩
  · intro u hu
    obtain ⟨j, hj, rfl⟩ := List.getElem_of_mem hu
    have hj' : j < L.length * 4 := by rw [rvs_len] at hj; exact hj
    obtain ⟨i, c, hic, hc4⟩ : ∃ i c, j = i * 4 + c ∧ c < 4 := ⟨j / 4, j % 4, by omega, by omega⟩
    have hil : i < L.length := by omega
    obtain ⟨d0, d1, d2, d3⟩ := rvs_at L i hil
    obtain ⟨_, _, k⟩ := hsp i (by omega)
    obtain ⟨a, n', e⟩ := k.form
    rw [hg i hil] at d0 d1 d2 d3
    have hu2 := List.getElem?_eq_getElem hj
    subst hic
    rcases (show c = 0 ∨ c = 1 ∨ c = 2 ∨ c = 3 by omega) with rfl | rfl | rfl | rfl
    · rw [Option.some.inj (hu2.symm.trans d0), e]; rfl
    · rw [Option.some.inj (hu2.symm.trans d1)]; rfl
    · rw [Option.some.inj (hu2.symm.trans d2)]; rfl
    · rw [Option.some.inj (hu2.symm.trans d3)]; rfl
theorem rus_of_row {lo base g cap n : Nat} {L : List (Value × Ru)} {W : World} (h : W.ownsRow base 27 4 (.slice (some ⟨g, 0, none⟩) n cap) n (rvs L)) (hn : L.length = n) (hlo : lo ≤ base) (hi : ∀ x ∈ L, IntsIn lo W x.1 x.2.vb ∧ RuSize x.2) : RusAt lo W (.slice (some ⟨g, 0, none⟩) n cap) (L.map Prod.snd) := by
  subst hn
  by_cases hR : L = []
  · subst hR; exact Or.inl ⟨_, _, rfl, rfl⟩
  · have hl := owns_lt h (g := g) rfl
    have hm : L.length ≤ cap ∧ cap ≤ maxLen := by
      rcases h.2 with ⟨hv, _⟩ | ⟨g', cap', cur, hv, h1, h2, h3, h4, _⟩
      · cases hv
      · injection hv with e1 e2 e3
        rw [e3]
        exact ⟨h3, h4⟩
    refine Or.inr ⟨g, 0, cap, by rw [List.length_map], by simpa using hR, by rw [List.length_map]; exact Nat.le_trans hm.1 hm.2, hl.1, Nat.le_trans hlo hl.2, by rw [List.length_map]; exact hm.1, fun i hi' => ?_⟩
    have hi2 : i < L.length := by simpa using hi'
    obtain ⟨c0, c1, c2, c3⟩ := rvs_at L i hi2
    have hx := hi _ (List.getElem_mem hi2)
    rw [List.getElem_map]
    have ce : ∀ j, j < 4 → W.cell? ⟨g, 0 + i * 4 + j, none⟩ = (rvs L)[i * 4 + j]? := fun j hj => by rw [Nat.zero_add]; exact h.cellAt _ (by omega)
    exact ⟨hx.2, L[i].1, ⟨(ce 0 (by omega)).trans c0, (ce 1 (by omega)).trans c1, (ce 2 (by omega)).trans c2, (ce 3 (by omega)).trans c3⟩, hx.1⟩
theorem news_12 {w w3 : World} {o : Obj} {a b c d : Value} {t : TypeId} {row : Option Nat} (hg : ((w.alloc o).alloc (.cells #[a, b, c, d] t)).drew.grownBy w3 row) (hr : row = some w.heap.size) : ∀ j u, [a, b, c, d][j]? = some u → w3.cell? ((⟨w.heap.size + 1, 0, none⟩ : Addr).add j) = some u := by
  intro j u hu
  subst hr
  have h1 := cell_new4 (w.alloc o) (w.heap.size + 1) a b c d t (by simp) j u hu
  rw [Go.WideShapes.add_plain] at h1 ⊢
  refine (hg.cell_far ⟨w.heap.size + 1, 0 + j, none⟩ ?_ ?_).trans ?_
  · show w.heap.size + 1 < ((w.alloc o).alloc (.cells #[a, b, c, d] t)).heap.size
    simp
  · intro e
    injection e with e
    have : w.heap.size + 1 = w.heap.size := e
    omega
  · rw [cell_drew']
    exact h1
theorem news_21 {w w3 : World} {o : Obj} {a b c d : Value} {t : TypeId} {row : Option Nat} (hg : ((w.alloc (.cells #[a, b, c, d] t)).alloc o).drew.grownBy w3 row) (hr : row = some (w.heap.size + 1)) : ∀ j u, [a, b, c, d][j]? = some u → w3.cell? ((⟨w.heap.size, 0, none⟩ : Addr).add j) = some u := by
  intro j u hu
  subst hr
  have h1 := cell_new4 w w.heap.size a b c d t rfl j u hu
  rw [Go.WideShapes.add_plain] at h1 ⊢
  refine (hg.cell_far ⟨w.heap.size, 0 + j, none⟩ ?_ ?_).trans ?_
  · show w.heap.size < ((w.alloc (.cells #[a, b, c, d] t)).alloc o).heap.size
    simp
    omega
  · intro e
    injection e with e
    have : w.heap.size = w.heap.size + 1 := e
    omega
  · rw [cell_drew']
    refine (cell_alloc_lt _ _ _ _ ?_).trans h1
    simp
theorem newd_12 {w : World} {o : Obj} {a b c d : Value} {t : TypeId} : ∀ j u, [a, b, c, d][j]? = some u → ((w.alloc o).alloc (.cells #[a, b, c, d] t)).drew.cell? ((⟨w.heap.size + 1, 0, none⟩ : Addr).add j) = some u := by
  intro j u hu
  rw [cell_drew']
  exact cell_new4 (w.alloc o) (w.heap.size + 1) a b c d t (by simp) j u hu
theorem newd_21 {w : World} {o : Obj} {a b c d : Value} {t : TypeId} : ∀ j u, [a, b, c, d][j]? = some u → ((w.alloc (.cells #[a, b, c, d] t)).alloc o).drew.cell? ((⟨w.heap.size, 0, none⟩ : Addr).add j) = some u := by
  intro j u hu
  have h1 := cell_new4 w w.heap.size a b c d t rfl j u hu
  rw [Go.WideShapes.add_plain] at h1 ⊢
  rw [cell_drew']
  refine (cell_alloc_lt _ _ _ _ ?_).trans h1
  simp
theorem run_append_none {P : Program} (w : World) (t ty e : TypeId) (i : TypeInfo) (ht : P.underlying t = some (.slice e)) (hi : P.info? e = some i) (g scap : Nat) (sa : Option Addr) :
    (Builtin.append_ #[t, t] ty #[.slice (some ⟨g, 0, none⟩) 0 0, .slice sa 0 scap]).run P w = .ok (.slice (some ⟨g, 0, none⟩) 0 0) w := by
  cases sa <;> simp [Builtin.append_, run_underlying ht, sizeOf, typeInfo, hi, Builtin.lenOf, Builtin.firstCells, loadCells, loadCellsFrom, storeCells]
theorem step_append_none {P : Program} {w : World} {ops : Array Oper} {o : Oper} {a : Act} {K : Act → World → Prop} {Q : Exit → Act → World → Prop} {E : Prop} (hgd : o.guard = none) (s x : Operand) (t : TypeId)
    (ho : o.op = .call { callee := .builtin .append, args := #[s, x], argTypes := #[t, t] }) (e : TypeId) (i : TypeInfo) (ht : P.underlying t = some (.slice e)) (hi : P.info? e = some i) (g scap : Nat) (sa : Option Addr)
    (hs : a.eval s = .slice (some ⟨g, 0, none⟩) 0 0) (hx : a.eval x = .slice sa 0 scap) (h : K (a.put o.dst (.slice (some ⟨g, 0, none⟩) 0 0)) w) :
    if Region.wanted o (yielded ops a.tmps) = true then Oper.wp P o a w K Q else E := by
  have hw : Region.wanted o (yielded ops a.tmps) = true := by simp [Region.wanted, hgd]
  rw [if_pos hw]
  have hr := run_append_none (P := P) w t o.type e i ht hi g scap sa
  unfold Oper.wp execOp
  simp only [ho, resolve, invoke, builtin, Sem.run_bind, Sem.run_pure, Result.andThen_ok, List.map_toArray, List.map_cons, List.map_nil, hs, hx, hr]
  exact h
set_option maxRecDepth 20000 in
set_option maxHeartbeats 16000000 in
theorem law_cov (v1 v2 : Value) (b1 b2 : List UInt8) (w : World) (h1 : CodeIn w v1 b1) (h2 : CodeIn w v2 b2) (htab : Lib.TabIs Tryd.prog w "internal/strconv.uint64pow10" .u64 Lib.pow10Tab) :
    Calls Tryd.prog 3 #[v1, v2] w fun e w' => e = .returned (.bool true) ∧ Below w.heap.size w w' := by
  have HTB := hide (Lib.tabBelow_of_tabIs htab)
  have H1 := hide h1
  have H2 := hide h2
  obtain ⟨a1, c1, rfl⟩ := h1.form
  obtain ⟨a2, c2, rfl⟩ := h2.form
  have m1 := h1.max
  have m2 := h2.max
  unfold maxLen at m1 m2
  clear h1 h2 htab
  by_cases l1 : 1048576 < b1.length
  · have g1 : decide ((1048576 : Int) < (b1.length : Int)) = true := decide_eq_true (by omega)
    go_enter Tryd.func3, Tryd.ntmps3
    go_wp2
    go_ret
    exact ⟨rfl, Below.refl _ _⟩
  have g1 : decide ((1048576 : Int) < (b1.length : Int)) = false := decide_eq_false (by omega)
  by_cases l2 : 1048576 < b2.length
  · have g2 : decide ((1048576 : Int) < (b2.length : Int)) = true := decide_eq_true (by omega)
    go_enter Tryd.func3, Tryd.ntmps3
    go_wp2
    go_ret
    exact ⟨rfl, Below.refl _ _⟩
  have g2 : decide ((1048576 : Int) < (b2.length : Int)) = false := decide_eq_false (by omega)
  go_enter Tryd.func3, Tryd.ntmps3
  go_wp2_with fail
  clear g1 g2
  refine (drawCovers_any _ b1 w H1.out).mono ?_
  rintro e w1 ⟨tv, sv, qv, Ts, Rs, q, rfl, hT, hR, hq, hlT, hlR, hqf, hb1⟩
  obtain ⟨ta, tcap, rfl⟩ := hT.form
  obtain ⟨sa, scap, rfl⟩ := hR.form
  obtain ⟨qa, qcap, rfl⟩ := hq.form
  have HT := hide hT
  have HR := hide hR
  have HQ := hide hq
  have HB1 := hide hb1
  have HZ := hide hqf.size
  clear hT hR hq hb1 hqf H1
  go_wp2_with fail
  generalize hW2 : w1.alloc (.cells #[.slice qa q.vb.length qcap, .string q.kd, .string q.tm, .string q.pf] 27) = W2
  have hb2 : Below w1.heap.size w1 W2 := by rw [← hW2]; exact one_al _ _
  have HS2 : Hid (Lw w w1.heap.size ta tcap Ts sa scap Rs qa qcap q W2) := ⟨HB1.out.trans (hb2.mono HB1.out.size), HT.out.below hb2, HR.out.below hb2, HQ.out.below hb2, by rw [← hW2]; exact Box.new _ _ _ _ rfl⟩
  clear hW2 hb2 HT HR HQ HB1
  generalize w1.heap.size = κ at *
  clear w1
  refine (implCovers_any _ _ _ _ _ _ Ts Rs q W2 HS2.out.tms HS2.out.rus HS2.out.ints HZ.out).mono ?_
  rintro e w3 ⟨rfl, hb3⟩
  have HS3 := hide (HS2.out.on hb3)
  clear hb3 HS2
  have k0 : w3.cell? ⟨κ, 0, none⟩ = some (.slice qa q.vb.length qcap) := by rw [HS3.out.box.cell 0]; rfl
  have k1 : w3.cell? ⟨κ, 1, none⟩ = some (.string q.kd) := by rw [HS3.out.box.cell 1]; rfl
  have k2 : w3.cell? ⟨κ, 2, none⟩ = some (.string q.tm) := by rw [HS3.out.box.cell 2]; rfl
  have k3 : w3.cell? ⟨κ, 3, none⟩ = some (.string q.pf) := by rw [HS3.out.box.cell 3]; rfl
  go_wp2_with fail
  refine (implUncovered_any _ _ _ _ _ _ Ts Rs q w3 HS3.out.tms HS3.out.rus HS3.out.ints HZ.out (by omega) (by omega) (Lib.tabBelow_of_tabIs (HTB.out.on HS3.out.below).here)).mono ?_
  rintro e w4 ⟨hun, hb4⟩
  have HS4 := hide (HS3.out.on hb4)
  clear hb4 HS3 k0 k1 k2 k3
  rcases hun with ⟨hno, rfl⟩ | ⟨hok, hmi, ak, at', rfl, hact⟩
  · cases hcv : coversB Ts Rs q with
    | true =>
      have HCV := hide hcv
      have HAL : Hid (allokB Ts Rs q = true) := (covers_iff.1 hcv).1
      clear hno hcv
      have kk : ∀ o i, (w4.alloc o).cell? ⟨κ, i, none⟩ = #[.slice qa q.vb.length qcap, .string q.kd, .string q.tm, .string q.pf][i]? := fun o i => (cell_alloc_lt _ _ _ _ HS4.out.box.lt).trans (HS4.out.box.cell i)
      have q0 : ∀ o, (w4.alloc o).cell? ⟨κ, 0, none⟩ = some (.slice qa q.vb.length qcap) := fun o => by rw [kk]; rfl
      have q1 : ∀ o, (w4.alloc o).cell? ⟨κ, 1, none⟩ = some (.string q.kd) := fun o => by rw [kk]; rfl
      have q2 : ∀ o, (w4.alloc o).cell? ⟨κ, 2, none⟩ = some (.string q.tm) := fun o => by rw [kk]; rfl
      have q3 : ∀ o, (w4.alloc o).cell? ⟨κ, 3, none⟩ = some (.string q.pf) := fun o => by rw [kk]; rfl
      clear kk
      go_wp2_with fail
      clear q0 q1 q2 q3
      generalize hW5 : w4.alloc (.cells #[.int .i64 0, .string ⟨#[]⟩, .string ⟨#[]⟩, .string ⟨#[]⟩] 32) = W5
      have hb5 : Below w4.heap.size w4 W5 := by rw [← hW5]; exact one_al _ _
      have HS5 := hide (HS4.out.on hb5)
      have HA5 : Hid (Box W5 w4.heap.size #[.int .i64 0, .string ⟨#[]⟩, .string ⟨#[]⟩, .string ⟨#[]⟩]) := by rw [← hW5]; exact Box.new _ _ _ _ rfl
      clear hW5 hb5 HS4
      generalize w4.heap.size = α at *
      clear w4
      refine (specCovers_any _ _ _ _ _ _ Ts Rs q W5 HS5.out.tms HS5.out.rus HS5.out.ints HZ.out).mono ?_
      rintro e w6 ⟨rfl, hb6⟩
      rw [HCV.out]
      have HS6 := hide (HS5.out.on hb6)
      have HA6 := hide (HA5.out.on hb6)
      clear hb6 HS5 HA5
      have HS8 := HS6
      clear HS6 HA6
      go_wp2
      generalize w6 = w8 at *
      go_cut [11] (fun c wc => c = .bool (allokB Ts Rs q) ∧ Below w8.heap.size w8 wc)
      case first =>
        obtain ⟨i0, hi, hz0, hz1, hz2⟩ := info_parts ruleInfo
        have HI := hide (And.intro hi (And.intro hz0 (And.intro hz1 hz2)))
        clear hi hz0 hz1 hz2
        have hz8 := HS8.out.below.size
        have HCS := hide (cover_self Ts Rs q)
        by_cases hRs : Rs = []
        · subst hRs
          rw [List.length_nil]
          go_region_held_law (Held1 w8 κ #[.slice qa q.vb.length qcap, .string q.kd, .string q.tm, .string q.pf])
            (first
              | (with_reducible exact Held1.drew HS8.out.box)
              | (with_reducible exact Held1.aldrew HS8.out.box _)
              | (with_reducible exact Held1.aldrew2 HS8.out.box _ _)
              | (with_reducible exact Held1.al (by assumption) _)
              | (with_reducible exact Held1.grow (by assumption) (by assumption))
              | (with_reducible exact Held1.on (by assumption) (by assumption)))
            (first
              | (refine step_append_none (by rfl) (.tmp 68) (.tmp 69) 24 (by rfl) 27 i0 Tryd.underlying24 HI.out.1 _ scap sa (by rfl) (by rfl) ?_)
              | (refine step_append_lies _ (by rfl) (.tmp 70) (.tmp 72) 24 (by rfl) w8.heap.size 27 i0 (.agg #[.slice none 0 0, .string ⟨#[]⟩, .string ⟨#[]⟩, .string ⟨#[]⟩]) 4 72 Tryd.underlying24 HI.out.1 HI.out.2.1 HI.out.2.2.1 HI.out.2.2.2 (by rfl) (by decide) _ 0 [] (by rfl) (World.ownsRow.drew (owns_below (owns_made _ _ _ 4 (by simp) (by simp)) (one_al _ _))) ⟨w8.heap.size + 1, 0, none⟩ 1 1 [.slice qa q.vb.length qcap, .string q.kd, .string q.tm, .string q.pf] (by rfl) (by rfl) newd_12 (four_oneCell _ _ _ _ _ _) (by decide) (by unfold maxLen; omega) (by omega) (by (try simp) <;> omega) _ (by rfl) ?_
                 intro g6 cap6 w6 hown6 hgrow6 hat6 hlt6
                 have hB6 := owns_grown (e := 27) (sz := 4) (n := 0) (cs := []) (base := w8.heap.size) (World.ownsRow.drew (owns_below (owns_made _ _ _ 4 (by simp) (by simp)) (one_al _ _))) hgrow6 (by (try simp) <;> omega))
              | (refine step_append_lies _ (by rfl) (.tmp 70) (.tmp 72) 24 (by rfl) w8.heap.size 27 i0 (.agg #[.slice none 0 0, .string ⟨#[]⟩, .string ⟨#[]⟩, .string ⟨#[]⟩]) 4 72 Tryd.underlying24 HI.out.1 HI.out.2.1 HI.out.2.2.1 HI.out.2.2.2 (by rfl) (by decide) _ 0 [] (by rfl) (World.ownsRow.drew (owns_made _ _ _ 4 (by simp) (by simp))) ⟨w8.heap.size, 0, none⟩ 1 1 [.slice qa q.vb.length qcap, .string q.kd, .string q.tm, .string q.pf] (by rfl) (by rfl) newd_21 (four_oneCell _ _ _ _ _ _) (by decide) (by unfold maxLen; omega) (by omega) (by (try simp) <;> omega) _ (by rfl) ?_
                 intro g6 cap6 w6 hown6 hgrow6 hat6 hlt6
                 have hB6 := owns_grown (e := 27) (sz := 4) (n := 0) (cs := []) (base := w8.heap.size) (World.ownsRow.drew (owns_made _ _ _ 4 (by simp) (by simp))) hgrow6 (by (try simp) <;> omega))
              | (go_at_call 5
                 have hb6 := Held1.base (W0 := w8) (b1 := κ) (cs1 := #[.slice qa q.vb.length qcap, .string q.kd, .string q.tm, .string q.pf]) (W := w6) (by assumption)
                 have hru : RusAt w.heap.size w6 (.slice (some ⟨g6, 0, none⟩) 1 cap6) ([] ++ [q]) :=
                   rus_of_row (L := [(.slice qa q.vb.length qcap, q)]) (lo := w.heap.size) hown6 rfl hz8 (fun x hx => by
                     rw [List.mem_singleton.1 hx]; exact ⟨HS8.out.ints.below hb6, HZ.out⟩)
                 refine (implCovers_any _ _ _ _ _ _ Ts ([] ++ [q]) q w6 (HS8.out.tms.below hb6) hru (HS8.out.ints.below hb6) HZ.out).mono ?_
                 rintro e w9 ⟨rfl, hb9⟩
                 rw [HCS.out]
                 have HB9 : Hid (Below w8.heap.size w8 w9) := hb6.trans (hb9.mono hb6.size)))
          all_goals go_wp2
          all_goals go_meet
          all_goals exact ⟨rfl, HB9.out⟩
        · have hRl : 0 < Rs.length := List.length_pos_iff.2 hRs
          obtain ⟨b, off, rfl, hbw, -⟩ := HS8.out.rus.full' hRl
          obtain ⟨L, hLR, hnews, hints, hone⟩ := HS8.out.rus.pairs hRl
          have hLl : L.length = Rs.length := by rw [← hLR]; simp
          have HNW := hide hnews
          have HIN := hide hints
          have HON := hide hone
          have HLR := hide hLR
          clear hnews hints hone hLR
          go_region_held_law (Held1 w8 κ #[.slice qa q.vb.length qcap, .string q.kd, .string q.tm, .string q.pf])
            (first
              | (with_reducible exact Held1.drew HS8.out.box)
              | (with_reducible exact Held1.aldrew HS8.out.box _)
              | (with_reducible exact Held1.aldrew2 HS8.out.box _ _)
              | (with_reducible exact Held1.al (by assumption) _)
              | (with_reducible exact Held1.grow (by assumption) (by assumption))
              | (with_reducible exact Held1.on (by assumption) (by assumption)))
            (first
              | (refine step_append_lies _ (by rfl) (.tmp 68) (.tmp 69) 24 (by rfl) w8.heap.size 27 i0 (.agg #[.slice none 0 0, .string ⟨#[]⟩, .string ⟨#[]⟩, .string ⟨#[]⟩]) 4 72 Tryd.underlying24 HI.out.1 HI.out.2.1 HI.out.2.2.1 HI.out.2.2.2 (by rfl) (by decide) _ 0 [] (by rfl) (by first | exact World.ownsRow.drew (owns_made _ _ _ 4 (by simp) (by simp)) | exact World.ownsRow.drew (owns_below (owns_made _ _ _ 4 (by simp) (by simp)) (one_al _ _))) ⟨b, off, none⟩ Rs.length scap (rvs L) (by rfl) (by rw [rvs_len, hLl]) (HNW.out _ (Held1.base (by assumption))) HON.out hRl (by unfold maxLen; omega) (by omega) (by (try simp) <;> omega) _ (by rfl) ?_
                 intro g3 cap3 w3 hown3 hgrow3 hat3 hlt3
                 have hB3 := owns_grown (e := 27) (sz := 4) (n := 0) (cs := []) (base := w8.heap.size) (by first | exact World.ownsRow.drew (owns_made _ _ _ 4 (by simp) (by simp)) | exact World.ownsRow.drew (owns_below (owns_made _ _ _ 4 (by simp) (by simp)) (one_al _ _))) hgrow3 (by (try simp) <;> omega)
                 rw [Nat.zero_add, List.nil_append] at hown3
                 rw [Nat.zero_add Rs.length])
              | (refine step_append_lies _ (by rfl) (.tmp 70) (.tmp 72) 24 (by rfl) w8.heap.size 27 i0 (.agg #[.slice none 0 0, .string ⟨#[]⟩, .string ⟨#[]⟩, .string ⟨#[]⟩]) 4 72 Tryd.underlying24 HI.out.1 HI.out.2.1 HI.out.2.2.1 HI.out.2.2.2 (by rfl) (by decide) _ Rs.length (rvs L) (by rfl) hown3 ⟨w8.heap.size + 1, 0, none⟩ 1 1 [.slice qa q.vb.length qcap, .string q.kd, .string q.tm, .string q.pf] (by rfl) (by rfl) (news_12 hgrow3 (by rfl)) (four_oneCell _ _ _ _ _ _) (by decide) (by unfold maxLen; omega) (by omega) (by have := hB3.size; simp at this; omega) _ (by rfl) ?_
                 intro g6 cap6 w6 hown6 hgrow6 hat6 hlt6
                 have hB6 := owns_grown hown3 hgrow6 (by have := hB3.size; simp at this; omega))
              | (refine step_append_lies _ (by rfl) (.tmp 70) (.tmp 72) 24 (by rfl) w8.heap.size 27 i0 (.agg #[.slice none 0 0, .string ⟨#[]⟩, .string ⟨#[]⟩, .string ⟨#[]⟩]) 4 72 Tryd.underlying24 HI.out.1 HI.out.2.1 HI.out.2.2.1 HI.out.2.2.2 (by rfl) (by decide) _ Rs.length (rvs L) (by rfl) hown3 ⟨w8.heap.size, 0, none⟩ 1 1 [.slice qa q.vb.length qcap, .string q.kd, .string q.tm, .string q.pf] (by rfl) (by rfl) (news_21 hgrow3 (by rfl)) (four_oneCell _ _ _ _ _ _) (by decide) (by unfold maxLen; omega) (by omega) (by have := hB3.size; simp at this; omega) _ (by rfl) ?_
                 intro g6 cap6 w6 hown6 hgrow6 hat6 hlt6
                 have hB6 := owns_grown hown3 hgrow6 (by have := hB3.size; simp at this; omega))
              | (refine step_append_lies _ (by rfl) (.tmp 70) (.tmp 72) 24 (by rfl) w8.heap.size 27 i0 (.agg #[.slice none 0 0, .string ⟨#[]⟩, .string ⟨#[]⟩, .string ⟨#[]⟩]) 4 72 Tryd.underlying24 HI.out.1 HI.out.2.1 HI.out.2.2.1 HI.out.2.2.2 (by rfl) (by decide) _ Rs.length (rvs L) (by rfl) (owns_below hown3 (one_al _ _)) ⟨w3.heap.size, 0, none⟩ 1 1 [.slice qa q.vb.length qcap, .string q.kd, .string q.tm, .string q.pf] (by rfl) (by rfl) (cell_new4 _ _ _ _ _ _ _ rfl) (four_oneCell _ _ _ _ _ _) (by decide) (by unfold maxLen; omega) (by omega) (by have := hB3.size; simp at this; (try simp) <;> omega) _ (by rfl) ?_
                 intro g6 cap6 w6 hown6 hgrow6 hat6 hlt6
                 have hB6 := owns_grown (owns_below hown3 (one_al _ _)) hgrow6 (by have := hB3.size; simp at this; (try simp) <;> omega))
              | (go_at_call 5
                 have hb6 := Held1.base (W0 := w8) (b1 := κ) (cs1 := #[.slice qa q.vb.length qcap, .string q.kd, .string q.tm, .string q.pf]) (W := w6) (by assumption)
                 have hru : RusAt w.heap.size w6 (.slice (some ⟨g6, 0, none⟩) (Rs.length + 1) cap6) (Rs ++ [q]) := by
                   have := rus_of_row (L := L ++ [(.slice qa q.vb.length qcap, q)]) (lo := w.heap.size) (by rw [rvs_app]; exact hown6) (by rw [List.length_append, hLl]; rfl) hz8 (fun x hx => by
                     rcases List.mem_append.1 hx with hx | hx
                     · exact ⟨(HIN.out x hx).1.below hb6, (HIN.out x hx).2⟩
                     · rw [List.mem_singleton.1 hx]; exact ⟨HS8.out.ints.below hb6, HZ.out⟩)
                   rw [List.map_append, HLR.out] at this
                   exact this
                 refine (implCovers_any _ _ _ _ _ _ Ts (Rs ++ [q]) q w6 (HS8.out.tms.below hb6) hru (HS8.out.ints.below hb6) HZ.out).mono ?_
                 rintro e w9 ⟨rfl, hb9⟩
                 rw [HCS.out]
                 have HB9 : Hid (Below w8.heap.size w8 w9) := hb6.trans (hb9.mono hb6.size)))
          all_goals go_wp2
          all_goals go_meet
          all_goals exact ⟨rfl, HB9.out⟩
      case rest =>
        obtain ⟨hc11, hwn⟩ := hcut
        rw [HAL.out] at hc11
        subst hc11
        have HS9 := hide (HS8.out.on hwn)
        clear hwn HS8
        go_wp2_with fail
        refine (drawAllows_any _ b2 wc (H2.out.below HS9.out.below)).mono ?_
        rintro e w10 ⟨tv2, qv2, q2, av, ak2, at2, an2, rfl, ⟨ta2, tn2, tc2, rfl⟩, ⟨qa2, qn2, qc2, rfl⟩, hb10⟩
        have HS10 := hide (HS9.out.on hb10)
        clear hb10 HS9
        have kk : ∀ o o2 i, ((w10.alloc o).alloc o2).cell? ⟨κ, i, none⟩ = #[.slice qa q.vb.length qcap, .string q.kd, .string q.tm, .string q.pf][i]? := fun o o2 i => ((HS10.out.box.on (one_al _ o)).on (one_al _ o2)).cell i
        have q0 : ∀ o o2, ((w10.alloc o).alloc o2).cell? ⟨κ, 0, none⟩ = some (.slice qa q.vb.length qcap) := fun o o2 => by rw [kk]; rfl
        have q1 : ∀ o o2, ((w10.alloc o).alloc o2).cell? ⟨κ, 1, none⟩ = some (.string q.kd) := fun o o2 => by rw [kk]; rfl
        have q2' : ∀ o o2, ((w10.alloc o).alloc o2).cell? ⟨κ, 2, none⟩ = some (.string q.tm) := fun o o2 => by rw [kk]; rfl
        have q3 : ∀ o o2, ((w10.alloc o).alloc o2).cell? ⟨κ, 3, none⟩ = some (.string q.pf) := fun o o2 => by rw [kk]; rfl
        clear kk
        go_wp2_with fail
        clear q0 q1 q2' q3
        generalize hW11 : (World.alloc (w10.alloc _) _) = W11
        have hb11 : Below w10.heap.size w10 W11 := by rw [← hW11]; exact (one_al _ _).alloc (by simp) _
        have HS11 := hide (HS10.out.on hb11)
        have HA11 : Hid (Box W11 (w10.heap.size + 1) #[.int .i64 av, .string ak2, .string at2, .string an2]) := by rw [← hW11]; exact Box.new _ _ _ _ (by simp)
        clear hW11 hb11 HS10
        generalize w10.heap.size + 1 = α2 at *
        refine (implAllows_any _ _ _ _ Ts q _ _ _ _ W11 HS11.out.tms HS11.out.ints HZ.out).mono ?_
        rintro e w12 ⟨rfl, hb12⟩
        have HS12 := hide (HS11.out.on hb12)
        have HA12 := hide (HA11.out.on hb12)
        clear hb12 HS11 HA11
        cases haq : allowsB Ts q av ak2 at2 an2 with
        | false =>
          go_wp2_with fail
          have HS15 := HS12
          generalize w12 = w15 at *
          refine (drawCovers_any _ b2 w15 (H2.out.below HS15.out.below)).mono ?_
          rintro e w16 ⟨tv3, sv3, qv3, Ts3, Os, q3, rfl, hT3, hR3, hq3, hlT3, hlR3, hqf3, hb16⟩
          obtain ⟨ta3, tcap3, rfl⟩ := hT3.form
          obtain ⟨sa3, scap3, rfl⟩ := hR3.form
          obtain ⟨qa3, qcap3, rfl⟩ := hq3.form
          have HS16 := hide (HS15.out.on hb16)
          have HO16 := hide (hR3.mono (lo' := w.heap.size) HS15.out.below.size)
          clear hT3 hR3 hq3 hqf3 hb16 HS15
          go_wp2
          generalize hW17 : w16.alloc _ = W17
          have hb17 : Below w16.heap.size w16 W17 := by rw [← hW17]; exact one_al _ _
          have HS17 := hide (HS16.out.on hb17)
          have HO17 := hide (HO16.out.below hb17)
          clear hW17 hb17 HS16 HO16
          go_loopw [18] (fun i wr => ∃ k : Nat, i = .int .i64 k ∧ k ≤ Rs.length ∧ Lw w κ ta tcap Ts sa scap Rs qa qcap q wr ∧ RusAt w.heap.size wr (.slice sa3 Os.length scap3) Os ∧ ∀ j (h : j < Rs.length), j < k → coversB Ts Os Rs[j] = true) (fun i _ => Rs.length - (intOf i).toNat)
          case atStart => exact ⟨0, rfl, Nat.zero_le _, HS17.out, HO17.out, fun j _ h => by omega⟩
          case round =>
            clear HS17 HO17
            obtain ⟨k, rfl, hk, hS, hO, hall⟩ := hrel
            have HS := hide hS
            have HO := hide hO
            have HA := hide hall
            clear hS hO hall
            by_cases hlt : k < Rs.length
            · obtain ⟨b, off, rfl, hbw, hc⟩ := HS.out.rus.full' (by omega)
              obtain ⟨hz, vv, hcell, hv⟩ := hc k hlt
              obtain ⟨d0, d1, d2, d3⟩ := hcell
              obtain ⟨va, vcap, rfl⟩ := hv.form
              have HV := hide hv
              have HZr := hide hz
              clear hc hz hv
              go_wp2_with fail
              refine (implCovers_any _ _ _ _ _ _ Ts Os Rs[k] wr HS.out.tms HO.out HV.out HZr.out).mono ?_
              rintro e w18 ⟨rfl, hb18⟩
              have HS18 := hide (HS.out.on hb18)
              have HO18 := hide (HO.out.below hb18)
              clear hb18 HS HO HV d0 d1 d2 d3
              cases hcr : coversB Ts Os Rs[k] with
              | false =>
                go_wp2
                go_ret
                exact ⟨rfl, HS18.out.below⟩
              | true =>
                have HCR := hide hcr
                go_wp2
                go_roundw
                case rel => exact ⟨k + 1, by go_num, by omega, HS18.out, HO18.out, fun j hj hjk => by
                              by_cases e : j = k
                              · subst e; exact HCR.out
                              · exact HA.out j hj (by omega)⟩
                case measure => simp [intOf]; omega
            · have HE : Hid (coversB Ts Os q = true) := cover_on HCV.out (fun x hx => by
                obtain ⟨i, hi, rfl⟩ := List.getElem_of_mem hx
                exact HA.out i hi (by omega))
              have k0 : wr.cell? ⟨κ, 0, none⟩ = some (.slice qa q.vb.length qcap) := by rw [HS.out.box.cell 0]; rfl
              have k1 : wr.cell? ⟨κ, 1, none⟩ = some (.string q.kd) := by rw [HS.out.box.cell 1]; rfl
              have k2 : wr.cell? ⟨κ, 2, none⟩ = some (.string q.tm) := by rw [HS.out.box.cell 2]; rfl
              have k3 : wr.cell? ⟨κ, 3, none⟩ = some (.string q.pf) := by rw [HS.out.box.cell 3]; rfl
              go_wp2_with fail
              refine (implCovers_any _ _ _ _ _ _ Ts Os q wr HS.out.tms HO.out HS.out.ints HZ.out).mono ?_
              rintro e w19 ⟨rfl, hb19⟩
              rw [HE.out]
              have HB19 := hide (HS.out.on hb19).below
              clear hb19
              go_wp2
              go_ret
              exact ⟨rfl, HB19.out⟩
        | true =>
          have HSO : Hid ((Rs.any fun r => allowsB Ts r av ak2 at2 an2) = true) := List.any_eq_true.2 (cover_sound HCV.out haq)
          have e0 : w12.cell? ⟨α2, 0, none⟩ = some (.int .i64 av) := by rw [HA12.out.cell 0]; rfl
          have e1 : w12.cell? ⟨α2, 1, none⟩ = some (.string ak2) := by rw [HA12.out.cell 1]; rfl
          have e2 : w12.cell? ⟨α2, 2, none⟩ = some (.string at2) := by rw [HA12.out.cell 2]; rfl
          have e3 : w12.cell? ⟨α2, 3, none⟩ = some (.string an2) := by rw [HA12.out.cell 3]; rfl
          go_wp2_with fail
          clear e0 e1 e2 e3
          refine (wgSome_any _ _ _ _ Ts Rs _ _ _ _ w12 HS12.out.tms HS12.out.rus).mono ?_
          rintro e w14 ⟨rfl, hb14⟩
          rw [HSO.out]
          have HS14 := hide (HS12.out.on hb14)
          clear hb14 HS12 HA12 HSO
          go_wp2_with fail
          have HS15 := HS14
          generalize w14 = w15 at *
          refine (drawCovers_any _ b2 w15 (H2.out.below HS15.out.below)).mono ?_
          rintro e w16 ⟨tv3, sv3, qv3, Ts3, Os, q3, rfl, hT3, hR3, hq3, hlT3, hlR3, hqf3, hb16⟩
          obtain ⟨ta3, tcap3, rfl⟩ := hT3.form
          obtain ⟨sa3, scap3, rfl⟩ := hR3.form
          obtain ⟨qa3, qcap3, rfl⟩ := hq3.form
          have HS16 := hide (HS15.out.on hb16)
          have HO16 := hide (hR3.mono (lo' := w.heap.size) HS15.out.below.size)
          clear hT3 hR3 hq3 hqf3 hb16 HS15
          go_wp2
          generalize hW17 : w16.alloc _ = W17
          have hb17 : Below w16.heap.size w16 W17 := by rw [← hW17]; exact one_al _ _
          have HS17 := hide (HS16.out.on hb17)
          have HO17 := hide (HO16.out.below hb17)
          clear hW17 hb17 HS16 HO16
          go_loopw [18] (fun i wr => ∃ k : Nat, i = .int .i64 k ∧ k ≤ Rs.length ∧ Lw w κ ta tcap Ts sa scap Rs qa qcap q wr ∧ RusAt w.heap.size wr (.slice sa3 Os.length scap3) Os ∧ ∀ j (h : j < Rs.length), j < k → coversB Ts Os Rs[j] = true) (fun i _ => Rs.length - (intOf i).toNat)
          case atStart => exact ⟨0, rfl, Nat.zero_le _, HS17.out, HO17.out, fun j _ h => by omega⟩
          case round =>
            clear HS17 HO17
            obtain ⟨k, rfl, hk, hS, hO, hall⟩ := hrel
            have HS := hide hS
            have HO := hide hO
            have HA := hide hall
            clear hS hO hall
            by_cases hlt : k < Rs.length
            · obtain ⟨b, off, rfl, hbw, hc⟩ := HS.out.rus.full' (by omega)
              obtain ⟨hz, vv, hcell, hv⟩ := hc k hlt
              obtain ⟨d0, d1, d2, d3⟩ := hcell
              obtain ⟨va, vcap, rfl⟩ := hv.form
              have HV := hide hv
              have HZr := hide hz
              clear hc hz hv
              go_wp2_with fail
              refine (implCovers_any _ _ _ _ _ _ Ts Os Rs[k] wr HS.out.tms HO.out HV.out HZr.out).mono ?_
              rintro e w18 ⟨rfl, hb18⟩
              have HS18 := hide (HS.out.on hb18)
              have HO18 := hide (HO.out.below hb18)
              clear hb18 HS HO HV d0 d1 d2 d3
              cases hcr : coversB Ts Os Rs[k] with
              | false =>
                go_wp2
                go_ret
                exact ⟨rfl, HS18.out.below⟩
              | true =>
                have HCR := hide hcr
                go_wp2
                go_roundw
                case rel => exact ⟨k + 1, by go_num, by omega, HS18.out, HO18.out, fun j hj hjk => by
                              by_cases e : j = k
                              · subst e; exact HCR.out
                              · exact HA.out j hj (by omega)⟩
                case measure => simp [intOf]; omega
            · have HE : Hid (coversB Ts Os q = true) := cover_on HCV.out (fun x hx => by
                obtain ⟨i, hi, rfl⟩ := List.getElem_of_mem hx
                exact HA.out i hi (by omega))
              have k0 : wr.cell? ⟨κ, 0, none⟩ = some (.slice qa q.vb.length qcap) := by rw [HS.out.box.cell 0]; rfl
              have k1 : wr.cell? ⟨κ, 1, none⟩ = some (.string q.kd) := by rw [HS.out.box.cell 1]; rfl
              have k2 : wr.cell? ⟨κ, 2, none⟩ = some (.string q.tm) := by rw [HS.out.box.cell 2]; rfl
              have k3 : wr.cell? ⟨κ, 3, none⟩ = some (.string q.pf) := by rw [HS.out.box.cell 3]; rfl
              go_wp2_with fail
              refine (implCovers_any _ _ _ _ _ _ Ts Os q wr HS.out.tms HO.out HS.out.ints HZ.out).mono ?_
              rintro e w19 ⟨rfl, hb19⟩
              rw [HE.out]
              have HB19 := hide (HS.out.on hb19).below
              clear hb19
              go_wp2
              go_ret
              exact ⟨rfl, HB19.out⟩
    | false =>
      have HAL : Hid (allokB Ts Rs q = false) := by
        unfold Hid
        cases ha : allokB Ts Rs q with
        | false => rfl
        | true =>
          exfalso
          apply hno
          refine ⟨ha, ?_⟩
          unfold coversB at hcv
          rw [ha, Bool.true_and] at hcv
          exact hcv
      have HCV := hide hcv
      clear hno hcv
      have kk : ∀ o i, (w4.alloc o).cell? ⟨κ, i, none⟩ = #[.slice qa q.vb.length qcap, .string q.kd, .string q.tm, .string q.pf][i]? := fun o i => (cell_alloc_lt _ _ _ _ HS4.out.box.lt).trans (HS4.out.box.cell i)
      have q0 : ∀ o, (w4.alloc o).cell? ⟨κ, 0, none⟩ = some (.slice qa q.vb.length qcap) := fun o => by rw [kk]; rfl
      have q1 : ∀ o, (w4.alloc o).cell? ⟨κ, 1, none⟩ = some (.string q.kd) := fun o => by rw [kk]; rfl
      have q2 : ∀ o, (w4.alloc o).cell? ⟨κ, 2, none⟩ = some (.string q.tm) := fun o => by rw [kk]; rfl
      have q3 : ∀ o, (w4.alloc o).cell? ⟨κ, 3, none⟩ = some (.string q.pf) := fun o => by rw [kk]; rfl
      clear kk
      go_wp2_with fail
      clear q0 q1 q2 q3
      generalize hW5 : w4.alloc (.cells #[.int .i64 0, .string ⟨#[]⟩, .string ⟨#[]⟩, .string ⟨#[]⟩] 32) = W5
      have hb5 : Below w4.heap.size w4 W5 := by rw [← hW5]; exact one_al _ _
      have HS5 := hide (HS4.out.on hb5)
      have HA5 : Hid (Box W5 w4.heap.size #[.int .i64 0, .string ⟨#[]⟩, .string ⟨#[]⟩, .string ⟨#[]⟩]) := by rw [← hW5]; exact Box.new _ _ _ _ rfl
      clear hW5 hb5 HS4
      generalize w4.heap.size = α at *
      clear w4
      refine (specCovers_any _ _ _ _ _ _ Ts Rs q W5 HS5.out.tms HS5.out.rus HS5.out.ints HZ.out).mono ?_
      rintro e w6 ⟨rfl, hb6⟩
      rw [HCV.out]
      have HS6 := hide (HS5.out.on hb6)
      have HA6 := hide (HA5.out.on hb6)
      clear hb6 HS5 HA5
      have HS8 := HS6
      clear HS6 HA6
      go_wp2
      generalize w6 = w8 at *
      go_cut [11] (fun c wc => c = .bool (allokB Ts Rs q) ∧ Below w8.heap.size w8 wc)
      case first =>
        obtain ⟨i0, hi, hz0, hz1, hz2⟩ := info_parts ruleInfo
        have HI := hide (And.intro hi (And.intro hz0 (And.intro hz1 hz2)))
        clear hi hz0 hz1 hz2
        have hz8 := HS8.out.below.size
        have HCS := hide (cover_self Ts Rs q)
        by_cases hRs : Rs = []
        · subst hRs
          rw [List.length_nil]
          go_region_held_law (Held1 w8 κ #[.slice qa q.vb.length qcap, .string q.kd, .string q.tm, .string q.pf])
            (first
              | (with_reducible exact Held1.drew HS8.out.box)
              | (with_reducible exact Held1.aldrew HS8.out.box _)
              | (with_reducible exact Held1.aldrew2 HS8.out.box _ _)
              | (with_reducible exact Held1.al (by assumption) _)
              | (with_reducible exact Held1.grow (by assumption) (by assumption))
              | (with_reducible exact Held1.on (by assumption) (by assumption)))
            (first
              | (refine step_append_none (by rfl) (.tmp 68) (.tmp 69) 24 (by rfl) 27 i0 Tryd.underlying24 HI.out.1 _ scap sa (by rfl) (by rfl) ?_)
              | (refine step_append_lies _ (by rfl) (.tmp 70) (.tmp 72) 24 (by rfl) w8.heap.size 27 i0 (.agg #[.slice none 0 0, .string ⟨#[]⟩, .string ⟨#[]⟩, .string ⟨#[]⟩]) 4 72 Tryd.underlying24 HI.out.1 HI.out.2.1 HI.out.2.2.1 HI.out.2.2.2 (by rfl) (by decide) _ 0 [] (by rfl) (World.ownsRow.drew (owns_below (owns_made _ _ _ 4 (by simp) (by simp)) (one_al _ _))) ⟨w8.heap.size + 1, 0, none⟩ 1 1 [.slice qa q.vb.length qcap, .string q.kd, .string q.tm, .string q.pf] (by rfl) (by rfl) newd_12 (four_oneCell _ _ _ _ _ _) (by decide) (by unfold maxLen; omega) (by omega) (by (try simp) <;> omega) _ (by rfl) ?_
                 intro g6 cap6 w6 hown6 hgrow6 hat6 hlt6
                 have hB6 := owns_grown (e := 27) (sz := 4) (n := 0) (cs := []) (base := w8.heap.size) (World.ownsRow.drew (owns_below (owns_made _ _ _ 4 (by simp) (by simp)) (one_al _ _))) hgrow6 (by (try simp) <;> omega))
              | (refine step_append_lies _ (by rfl) (.tmp 70) (.tmp 72) 24 (by rfl) w8.heap.size 27 i0 (.agg #[.slice none 0 0, .string ⟨#[]⟩, .string ⟨#[]⟩, .string ⟨#[]⟩]) 4 72 Tryd.underlying24 HI.out.1 HI.out.2.1 HI.out.2.2.1 HI.out.2.2.2 (by rfl) (by decide) _ 0 [] (by rfl) (World.ownsRow.drew (owns_made _ _ _ 4 (by simp) (by simp))) ⟨w8.heap.size, 0, none⟩ 1 1 [.slice qa q.vb.length qcap, .string q.kd, .string q.tm, .string q.pf] (by rfl) (by rfl) newd_21 (four_oneCell _ _ _ _ _ _) (by decide) (by unfold maxLen; omega) (by omega) (by (try simp) <;> omega) _ (by rfl) ?_
                 intro g6 cap6 w6 hown6 hgrow6 hat6 hlt6
                 have hB6 := owns_grown (e := 27) (sz := 4) (n := 0) (cs := []) (base := w8.heap.size) (World.ownsRow.drew (owns_made _ _ _ 4 (by simp) (by simp))) hgrow6 (by (try simp) <;> omega))
              | (go_at_call 5
                 have hb6 := Held1.base (W0 := w8) (b1 := κ) (cs1 := #[.slice qa q.vb.length qcap, .string q.kd, .string q.tm, .string q.pf]) (W := w6) (by assumption)
                 have hru : RusAt w.heap.size w6 (.slice (some ⟨g6, 0, none⟩) 1 cap6) ([] ++ [q]) :=
                   rus_of_row (L := [(.slice qa q.vb.length qcap, q)]) (lo := w.heap.size) hown6 rfl hz8 (fun x hx => by
                     rw [List.mem_singleton.1 hx]; exact ⟨HS8.out.ints.below hb6, HZ.out⟩)
                 refine (implCovers_any _ _ _ _ _ _ Ts ([] ++ [q]) q w6 (HS8.out.tms.below hb6) hru (HS8.out.ints.below hb6) HZ.out).mono ?_
                 rintro e w9 ⟨rfl, hb9⟩
                 rw [HCS.out]
                 have HB9 : Hid (Below w8.heap.size w8 w9) := hb6.trans (hb9.mono hb6.size)))
          all_goals go_wp2
          all_goals go_meet
          all_goals exact ⟨rfl, HB9.out⟩
        · have hRl : 0 < Rs.length := List.length_pos_iff.2 hRs
          obtain ⟨b, off, rfl, hbw, -⟩ := HS8.out.rus.full' hRl
          obtain ⟨L, hLR, hnews, hints, hone⟩ := HS8.out.rus.pairs hRl
          have hLl : L.length = Rs.length := by rw [← hLR]; simp
          have HNW := hide hnews
          have HIN := hide hints
          have HON := hide hone
          have HLR := hide hLR
          clear hnews hints hone hLR
          go_region_held_law (Held1 w8 κ #[.slice qa q.vb.length qcap, .string q.kd, .string q.tm, .string q.pf])
            (first
              | (with_reducible exact Held1.drew HS8.out.box)
              | (with_reducible exact Held1.aldrew HS8.out.box _)
              | (with_reducible exact Held1.aldrew2 HS8.out.box _ _)
              | (with_reducible exact Held1.al (by assumption) _)
              | (with_reducible exact Held1.grow (by assumption) (by assumption))
              | (with_reducible exact Held1.on (by assumption) (by assumption)))
            (first
              | (refine step_append_lies _ (by rfl) (.tmp 68) (.tmp 69) 24 (by rfl) w8.heap.size 27 i0 (.agg #[.slice none 0 0, .string ⟨#[]⟩, .string ⟨#[]⟩, .string ⟨#[]⟩]) 4 72 Tryd.underlying24 HI.out.1 HI.out.2.1 HI.out.2.2.1 HI.out.2.2.2 (by rfl) (by decide) _ 0 [] (by rfl) (by first | exact World.ownsRow.drew (owns_made _ _ _ 4 (by simp) (by simp)) | exact World.ownsRow.drew (owns_below (owns_made _ _ _ 4 (by simp) (by simp)) (one_al _ _))) ⟨b, off, none⟩ Rs.length scap (rvs L) (by rfl) (by rw [rvs_len, hLl]) (HNW.out _ (Held1.base (by assumption))) HON.out hRl (by unfold maxLen; omega) (by omega) (by (try simp) <;> omega) _ (by rfl) ?_
                 intro g3 cap3 w3 hown3 hgrow3 hat3 hlt3
                 have hB3 := owns_grown (e := 27) (sz := 4) (n := 0) (cs := []) (base := w8.heap.size) (by first | exact World.ownsRow.drew (owns_made _ _ _ 4 (by simp) (by simp)) | exact World.ownsRow.drew (owns_below (owns_made _ _ _ 4 (by simp) (by simp)) (one_al _ _))) hgrow3 (by (try simp) <;> omega)
                 rw [Nat.zero_add, List.nil_append] at hown3
                 rw [Nat.zero_add Rs.length])
              | (refine step_append_lies _ (by rfl) (.tmp 70) (.tmp 72) 24 (by rfl) w8.heap.size 27 i0 (.agg #[.slice none 0 0, .string ⟨#[]⟩, .string ⟨#[]⟩, .string ⟨#[]⟩]) 4 72 Tryd.underlying24 HI.out.1 HI.out.2.1 HI.out.2.2.1 HI.out.2.2.2 (by rfl) (by decide) _ Rs.length (rvs L) (by rfl) hown3 ⟨w8.heap.size + 1, 0, none⟩ 1 1 [.slice qa q.vb.length qcap, .string q.kd, .string q.tm, .string q.pf] (by rfl) (by rfl) (news_12 hgrow3 (by rfl)) (four_oneCell _ _ _ _ _ _) (by decide) (by unfold maxLen; omega) (by omega) (by have := hB3.size; simp at this; omega) _ (by rfl) ?_
                 intro g6 cap6 w6 hown6 hgrow6 hat6 hlt6
                 have hB6 := owns_grown hown3 hgrow6 (by have := hB3.size; simp at this; omega))
              | (refine step_append_lies _ (by rfl) (.tmp 70) (.tmp 72) 24 (by rfl) w8.heap.size 27 i0 (.agg #[.slice none 0 0, .string ⟨#[]⟩, .string ⟨#[]⟩, .string ⟨#[]⟩]) 4 72 Tryd.underlying24 HI.out.1 HI.out.2.1 HI.out.2.2.1 HI.out.2.2.2 (by rfl) (by decide) _ Rs.length (rvs L) (by rfl) hown3 ⟨w8.heap.size, 0, none⟩ 1 1 [.slice qa q.vb.length qcap, .string q.kd, .string q.tm, .string q.pf] (by rfl) (by rfl) (news_21 hgrow3 (by rfl)) (four_oneCell _ _ _ _ _ _) (by decide) (by unfold maxLen; omega) (by omega) (by have := hB3.size; simp at this; omega) _ (by rfl) ?_
                 intro g6 cap6 w6 hown6 hgrow6 hat6 hlt6
                 have hB6 := owns_grown hown3 hgrow6 (by have := hB3.size; simp at this; omega))
              | (refine step_append_lies _ (by rfl) (.tmp 70) (.tmp 72) 24 (by rfl) w8.heap.size 27 i0 (.agg #[.slice none 0 0, .string ⟨#[]⟩, .string ⟨#[]⟩, .string ⟨#[]⟩]) 4 72 Tryd.underlying24 HI.out.1 HI.out.2.1 HI.out.2.2.1 HI.out.2.2.2 (by rfl) (by decide) _ Rs.length (rvs L) (by rfl) (owns_below hown3 (one_al _ _)) ⟨w3.heap.size, 0, none⟩ 1 1 [.slice qa q.vb.length qcap, .string q.kd, .string q.tm, .string q.pf] (by rfl) (by rfl) (cell_new4 _ _ _ _ _ _ _ rfl) (four_oneCell _ _ _ _ _ _) (by decide) (by unfold maxLen; omega) (by omega) (by have := hB3.size; simp at this; (try simp) <;> omega) _ (by rfl) ?_
                 intro g6 cap6 w6 hown6 hgrow6 hat6 hlt6
                 have hB6 := owns_grown (owns_below hown3 (one_al _ _)) hgrow6 (by have := hB3.size; simp at this; (try simp) <;> omega))
              | (go_at_call 5
                 have hb6 := Held1.base (W0 := w8) (b1 := κ) (cs1 := #[.slice qa q.vb.length qcap, .string q.kd, .string q.tm, .string q.pf]) (W := w6) (by assumption)
                 have hru : RusAt w.heap.size w6 (.slice (some ⟨g6, 0, none⟩) (Rs.length + 1) cap6) (Rs ++ [q]) := by
                   have := rus_of_row (L := L ++ [(.slice qa q.vb.length qcap, q)]) (lo := w.heap.size) (by rw [rvs_app]; exact hown6) (by rw [List.length_append, hLl]; rfl) hz8 (fun x hx => by
                     rcases List.mem_append.1 hx with hx | hx
                     · exact ⟨(HIN.out x hx).1.below hb6, (HIN.out x hx).2⟩
                     · rw [List.mem_singleton.1 hx]; exact ⟨HS8.out.ints.below hb6, HZ.out⟩)
                   rw [List.map_append, HLR.out] at this
                   exact this
                 refine (implCovers_any _ _ _ _ _ _ Ts (Rs ++ [q]) q w6 (HS8.out.tms.below hb6) hru (HS8.out.ints.below hb6) HZ.out).mono ?_
                 rintro e w9 ⟨rfl, hb9⟩
                 rw [HCS.out]
                 have HB9 : Hid (Below w8.heap.size w8 w9) := hb6.trans (hb9.mono hb6.size)))
          all_goals go_wp2
          all_goals go_meet
          all_goals exact ⟨rfl, HB9.out⟩
      case rest =>
        obtain ⟨hc11, hwn⟩ := hcut
        rw [HAL.out] at hc11
        subst hc11
        have HS9 := hide (HS8.out.on hwn)
        clear hwn HS8
        go_wp2_with fail
        refine (drawAllows_any _ b2 wc (H2.out.below HS9.out.below)).mono ?_
        rintro e w10 ⟨tv2, qv2, q2, av, ak2, at2, an2, rfl, ⟨ta2, tn2, tc2, rfl⟩, ⟨qa2, qn2, qc2, rfl⟩, hb10⟩
        have HS10 := hide (HS9.out.on hb10)
        clear hb10 HS9
        go_wp2_with fail
        generalize hW11 : (World.alloc (w10.alloc _) _) = W11
        have hb11 : Below w10.heap.size w10 W11 := by rw [← hW11]; exact (one_al _ _).alloc (by simp) _
        have HS15 := hide (HS10.out.on hb11)
        clear hW11 hb11 HS10
        generalize W11 = w15 at *
        refine (drawCovers_any _ b2 w15 (H2.out.below HS15.out.below)).mono ?_
        rintro e w16 ⟨tv3, sv3, qv3, Ts3, Os, q3, rfl, hT3, hR3, hq3, hlT3, hlR3, hqf3, hb16⟩
        obtain ⟨ta3, tcap3, rfl⟩ := hT3.form
        obtain ⟨sa3, scap3, rfl⟩ := hR3.form
        obtain ⟨qa3, qcap3, rfl⟩ := hq3.form
        have HS16 := hide (HS15.out.on hb16)
        have HO16 := hide (hR3.mono (lo' := w.heap.size) HS15.out.below.size)
        clear hT3 hR3 hq3 hqf3 hb16 HS15
        go_wp2
        generalize hW17 : w16.alloc _ = W17
        have hb17 : Below w16.heap.size w16 W17 := by rw [← hW17]; exact one_al _ _
        have HS17 := hide (HS16.out.on hb17)
        have HO17 := hide (HO16.out.below hb17)
        clear hW17 hb17 HS16 HO16
        go_loopw [18] (fun i wr => ∃ k : Nat, i = .int .i64 k ∧ k ≤ Rs.length ∧ Lw w κ ta tcap Ts sa scap Rs qa qcap q wr ∧ RusAt w.heap.size wr (.slice sa3 Os.length scap3) Os ∧ ∀ j (h : j < Rs.length), j < k → coversB Ts Os Rs[j] = true) (fun i _ => Rs.length - (intOf i).toNat)
        case atStart => exact ⟨0, rfl, Nat.zero_le _, HS17.out, HO17.out, fun j _ h => by omega⟩
        case round =>
          clear HS17 HO17
          obtain ⟨k, rfl, hk, hS, hO, hall⟩ := hrel
          have HS := hide hS
          have HO := hide hO
          have HA := hide hall
          clear hS hO hall
          by_cases hlt : k < Rs.length
          · obtain ⟨b, off, rfl, hbw, hc⟩ := HS.out.rus.full' (by omega)
            obtain ⟨hz, vv, hcell, hv⟩ := hc k hlt
            obtain ⟨d0, d1, d2, d3⟩ := hcell
            obtain ⟨va, vcap, rfl⟩ := hv.form
            have HV := hide hv
            have HZr := hide hz
            clear hc hz hv
            go_wp2_with fail
            refine (implCovers_any _ _ _ _ _ _ Ts Os Rs[k] wr HS.out.tms HO.out HV.out HZr.out).mono ?_
            rintro e w18 ⟨rfl, hb18⟩
            have HS18 := hide (HS.out.on hb18)
            have HO18 := hide (HO.out.below hb18)
            clear hb18 HS HO HV d0 d1 d2 d3
            cases hcr : coversB Ts Os Rs[k] with
            | false =>
              go_wp2
              go_ret
              exact ⟨rfl, HS18.out.below⟩
            | true =>
              have HCR := hide hcr
              go_wp2
              go_roundw
              case rel => exact ⟨k + 1, by go_num, by omega, HS18.out, HO18.out, fun j hj hjk => by
                            by_cases e : j = k
                            · subst e; exact HCR.out
                            · exact HA.out j hj (by omega)⟩
              case measure => simp [intOf]; omega
          · go_wp2
            go_ret
            exact ⟨rfl, HS.out.below⟩
  · have hcv : coversB Ts Rs q = false := by unfold coversB; rw [hok, hmi]; rfl
    have HCV := hide hcv
    have HAL := hide hok
    have HY := hide (unc_yes hok hmi hact)
    have HN : Hid ((Rs.any fun r => allowsB Ts r (leastP (missP Ts Rs q)) ak at' q.pf) = false) := any_no (fun i hi => unc_no hmi hact (List.getElem_mem hi))
    clear hok hmi hact hcv
    rw [HCV.out]
    have kk : ∀ o i, (w4.alloc o).cell? ⟨κ, i, none⟩ = #[.slice qa q.vb.length qcap, .string q.kd, .string q.tm, .string q.pf][i]? := fun o i => (cell_alloc_lt _ _ _ _ HS4.out.box.lt).trans (HS4.out.box.cell i)
    have q0 : ∀ o, (w4.alloc o).cell? ⟨κ, 0, none⟩ = some (.slice qa q.vb.length qcap) := fun o => by rw [kk]; rfl
    have q1 : ∀ o, (w4.alloc o).cell? ⟨κ, 1, none⟩ = some (.string q.kd) := fun o => by rw [kk]; rfl
    have q2 : ∀ o, (w4.alloc o).cell? ⟨κ, 2, none⟩ = some (.string q.tm) := fun o => by rw [kk]; rfl
    have q3 : ∀ o, (w4.alloc o).cell? ⟨κ, 3, none⟩ = some (.string q.pf) := fun o => by rw [kk]; rfl
    clear kk
    go_wp2_with fail
    clear q0 q1 q2 q3
    generalize hW5 : w4.alloc (.cells #[.int .i64 (leastP (missP Ts Rs q)), .string ak, .string at', .string q.pf] 32) = W5
    have hb5 : Below w4.heap.size w4 W5 := by rw [← hW5]; exact one_al _ _
    have HS5 := hide (HS4.out.on hb5)
    have HA5 : Hid (Box W5 w4.heap.size #[.int .i64 (leastP (missP Ts Rs q)), .string ak, .string at', .string q.pf]) := by rw [← hW5]; exact Box.new _ _ _ _ rfl
    clear hW5 hb5 HS4
    generalize w4.heap.size = α at *
    clear w4
    refine (specCovers_any _ _ _ _ _ _ Ts Rs q W5 HS5.out.tms HS5.out.rus HS5.out.ints HZ.out).mono ?_
    rintro e w6 ⟨rfl, hb6⟩
    rw [HCV.out]
    have HS6 := hide (HS5.out.on hb6)
    have HA6 := hide (HA5.out.on hb6)
    clear hb6 HS5 HA5
    have k0 : w6.cell? ⟨κ, 0, none⟩ = some (.slice qa q.vb.length qcap) := by rw [HS6.out.box.cell 0]; rfl
    have k1 : w6.cell? ⟨κ, 1, none⟩ = some (.string q.kd) := by rw [HS6.out.box.cell 1]; rfl
    have k2 : w6.cell? ⟨κ, 2, none⟩ = some (.string q.tm) := by rw [HS6.out.box.cell 2]; rfl
    have k3 : w6.cell? ⟨κ, 3, none⟩ = some (.string q.pf) := by rw [HS6.out.box.cell 3]; rfl
    have a0 : w6.cell? ⟨α, 0, none⟩ = some (.int .i64 (leastP (missP Ts Rs q))) := by rw [HA6.out.cell 0]; rfl
    have a1 : w6.cell? ⟨α, 1, none⟩ = some (.string ak) := by rw [HA6.out.cell 1]; rfl
    have a2 : w6.cell? ⟨α, 2, none⟩ = some (.string at') := by rw [HA6.out.cell 2]; rfl
    have a3 : w6.cell? ⟨α, 3, none⟩ = some (.string q.pf) := by rw [HA6.out.cell 3]; rfl
    go_wp2_with fail
    clear k0 k1 k2 k3 a0 a1 a2 a3
    refine (implAllows_any _ _ _ _ Ts q _ _ _ _ w6 HS6.out.tms HS6.out.ints HZ.out).mono ?_
    rintro e w7 ⟨rfl, hb7⟩
    rw [HY.out]
    have HS7 := hide (HS6.out.on hb7)
    have HA7 := hide (HA6.out.on hb7)
    clear hb7 HS6 HA6
    have a0 : w7.cell? ⟨α, 0, none⟩ = some (.int .i64 (leastP (missP Ts Rs q))) := by rw [HA7.out.cell 0]; rfl
    have a1 : w7.cell? ⟨α, 1, none⟩ = some (.string ak) := by rw [HA7.out.cell 1]; rfl
    have a2 : w7.cell? ⟨α, 2, none⟩ = some (.string at') := by rw [HA7.out.cell 2]; rfl
    have a3 : w7.cell? ⟨α, 3, none⟩ = some (.string q.pf) := by rw [HA7.out.cell 3]; rfl
    go_wp2_with fail
    clear a0 a1 a2 a3
    refine (wgSome_any _ _ _ _ Ts Rs _ _ _ _ w7 HS7.out.tms HS7.out.rus).mono ?_
    rintro e w8 ⟨rfl, hb8⟩
    rw [HN.out]
    have HS8 := hide (HS7.out.on hb8)
    clear hb8 HS7 HA7 HY HN
    go_wp2
    go_cut [11] (fun c wc => c = .bool (allokB Ts Rs q) ∧ Below w8.heap.size w8 wc)
    case first =>
      obtain ⟨i0, hi, hz0, hz1, hz2⟩ := info_parts ruleInfo
      have HI := hide (And.intro hi (And.intro hz0 (And.intro hz1 hz2)))
      clear hi hz0 hz1 hz2
      have hz8 := HS8.out.below.size
      have HCS := hide (cover_self Ts Rs q)
      by_cases hRs : Rs = []
      · subst hRs
        rw [List.length_nil]
        go_region_held_law (Held1 w8 κ #[.slice qa q.vb.length qcap, .string q.kd, .string q.tm, .string q.pf])
          (first
            | (with_reducible exact Held1.drew HS8.out.box)
            | (with_reducible exact Held1.aldrew HS8.out.box _)
            | (with_reducible exact Held1.aldrew2 HS8.out.box _ _)
            | (with_reducible exact Held1.al (by assumption) _)
            | (with_reducible exact Held1.grow (by assumption) (by assumption))
            | (with_reducible exact Held1.on (by assumption) (by assumption)))
          (first
            | (refine step_append_none (by rfl) (.tmp 68) (.tmp 69) 24 (by rfl) 27 i0 Tryd.underlying24 HI.out.1 _ scap sa (by rfl) (by rfl) ?_)
            | (refine step_append_lies _ (by rfl) (.tmp 70) (.tmp 72) 24 (by rfl) w8.heap.size 27 i0 (.agg #[.slice none 0 0, .string ⟨#[]⟩, .string ⟨#[]⟩, .string ⟨#[]⟩]) 4 72 Tryd.underlying24 HI.out.1 HI.out.2.1 HI.out.2.2.1 HI.out.2.2.2 (by rfl) (by decide) _ 0 [] (by rfl) (World.ownsRow.drew (owns_below (owns_made _ _ _ 4 (by simp) (by simp)) (one_al _ _))) ⟨w8.heap.size + 1, 0, none⟩ 1 1 [.slice qa q.vb.length qcap, .string q.kd, .string q.tm, .string q.pf] (by rfl) (by rfl) newd_12 (four_oneCell _ _ _ _ _ _) (by decide) (by unfold maxLen; omega) (by omega) (by (try simp) <;> omega) _ (by rfl) ?_
               intro g6 cap6 w6 hown6 hgrow6 hat6 hlt6
               have hB6 := owns_grown (e := 27) (sz := 4) (n := 0) (cs := []) (base := w8.heap.size) (World.ownsRow.drew (owns_below (owns_made _ _ _ 4 (by simp) (by simp)) (one_al _ _))) hgrow6 (by (try simp) <;> omega))
            | (refine step_append_lies _ (by rfl) (.tmp 70) (.tmp 72) 24 (by rfl) w8.heap.size 27 i0 (.agg #[.slice none 0 0, .string ⟨#[]⟩, .string ⟨#[]⟩, .string ⟨#[]⟩]) 4 72 Tryd.underlying24 HI.out.1 HI.out.2.1 HI.out.2.2.1 HI.out.2.2.2 (by rfl) (by decide) _ 0 [] (by rfl) (World.ownsRow.drew (owns_made _ _ _ 4 (by simp) (by simp))) ⟨w8.heap.size, 0, none⟩ 1 1 [.slice qa q.vb.length qcap, .string q.kd, .string q.tm, .string q.pf] (by rfl) (by rfl) newd_21 (four_oneCell _ _ _ _ _ _) (by decide) (by unfold maxLen; omega) (by omega) (by (try simp) <;> omega) _ (by rfl) ?_
               intro g6 cap6 w6 hown6 hgrow6 hat6 hlt6
               have hB6 := owns_grown (e := 27) (sz := 4) (n := 0) (cs := []) (base := w8.heap.size) (World.ownsRow.drew (owns_made _ _ _ 4 (by simp) (by simp))) hgrow6 (by (try simp) <;> omega))
            | (go_at_call 5
               have hb6 := Held1.base (W0 := w8) (b1 := κ) (cs1 := #[.slice qa q.vb.length qcap, .string q.kd, .string q.tm, .string q.pf]) (W := w6) (by assumption)
               have hru : RusAt w.heap.size w6 (.slice (some ⟨g6, 0, none⟩) 1 cap6) ([] ++ [q]) :=
                 rus_of_row (L := [(.slice qa q.vb.length qcap, q)]) (lo := w.heap.size) hown6 rfl hz8 (fun x hx => by
                   rw [List.mem_singleton.1 hx]; exact ⟨HS8.out.ints.below hb6, HZ.out⟩)
               refine (implCovers_any _ _ _ _ _ _ Ts ([] ++ [q]) q w6 (HS8.out.tms.below hb6) hru (HS8.out.ints.below hb6) HZ.out).mono ?_
               rintro e w9 ⟨rfl, hb9⟩
               rw [HCS.out]
               have HB9 : Hid (Below w8.heap.size w8 w9) := hb6.trans (hb9.mono hb6.size)))
        all_goals go_wp2
        all_goals go_meet
        all_goals exact ⟨rfl, HB9.out⟩
      · have hRl : 0 < Rs.length := List.length_pos_iff.2 hRs
        obtain ⟨b, off, rfl, hbw, -⟩ := HS8.out.rus.full' hRl
        obtain ⟨L, hLR, hnews, hints, hone⟩ := HS8.out.rus.pairs hRl
        have hLl : L.length = Rs.length := by rw [← hLR]; simp
        have HNW := hide hnews
        have HIN := hide hints
        have HON := hide hone
        have HLR := hide hLR
        clear hnews hints hone hLR
        go_region_held_law (Held1 w8 κ #[.slice qa q.vb.length qcap, .string q.kd, .string q.tm, .string q.pf])
          (first
            | (with_reducible exact Held1.drew HS8.out.box)
            | (with_reducible exact Held1.aldrew HS8.out.box _)
            | (with_reducible exact Held1.aldrew2 HS8.out.box _ _)
            | (with_reducible exact Held1.al (by assumption) _)
            | (with_reducible exact Held1.grow (by assumption) (by assumption))
            | (with_reducible exact Held1.on (by assumption) (by assumption)))
          (first
            | (refine step_append_lies _ (by rfl) (.tmp 68) (.tmp 69) 24 (by rfl) w8.heap.size 27 i0 (.agg #[.slice none 0 0, .string ⟨#[]⟩, .string ⟨#[]⟩, .string ⟨#[]⟩]) 4 72 Tryd.underlying24 HI.out.1 HI.out.2.1 HI.out.2.2.1 HI.out.2.2.2 (by rfl) (by decide) _ 0 [] (by rfl) (by first | exact World.ownsRow.drew (owns_made _ _ _ 4 (by simp) (by simp)) | exact World.ownsRow.drew (owns_below (owns_made _ _ _ 4 (by simp) (by simp)) (one_al _ _))) ⟨b, off, none⟩ Rs.length scap (rvs L) (by rfl) (by rw [rvs_len, hLl]) (HNW.out _ (Held1.base (by assumption))) HON.out hRl (by unfold maxLen; omega) (by omega) (by (try simp) <;> omega) _ (by rfl) ?_
               intro g3 cap3 w3 hown3 hgrow3 hat3 hlt3
               have hB3 := owns_grown (e := 27) (sz := 4) (n := 0) (cs := []) (base := w8.heap.size) (by first | exact World.ownsRow.drew (owns_made _ _ _ 4 (by simp) (by simp)) | exact World.ownsRow.drew (owns_below (owns_made _ _ _ 4 (by simp) (by simp)) (one_al _ _))) hgrow3 (by (try simp) <;> omega)
               rw [Nat.zero_add, List.nil_append] at hown3
               rw [Nat.zero_add Rs.length])
            | (refine step_append_lies _ (by rfl) (.tmp 70) (.tmp 72) 24 (by rfl) w8.heap.size 27 i0 (.agg #[.slice none 0 0, .string ⟨#[]⟩, .string ⟨#[]⟩, .string ⟨#[]⟩]) 4 72 Tryd.underlying24 HI.out.1 HI.out.2.1 HI.out.2.2.1 HI.out.2.2.2 (by rfl) (by decide) _ Rs.length (rvs L) (by rfl) hown3 ⟨w8.heap.size + 1, 0, none⟩ 1 1 [.slice qa q.vb.length qcap, .string q.kd, .string q.tm, .string q.pf] (by rfl) (by rfl) (news_12 hgrow3 (by rfl)) (four_oneCell _ _ _ _ _ _) (by decide) (by unfold maxLen; omega) (by omega) (by have := hB3.size; simp at this; omega) _ (by rfl) ?_
               intro g6 cap6 w6 hown6 hgrow6 hat6 hlt6
               have hB6 := owns_grown hown3 hgrow6 (by have := hB3.size; simp at this; omega))
            | (refine step_append_lies _ (by rfl) (.tmp 70) (.tmp 72) 24 (by rfl) w8.heap.size 27 i0 (.agg #[.slice none 0 0, .string ⟨#[]⟩, .string ⟨#[]⟩, .string ⟨#[]⟩]) 4 72 Tryd.underlying24 HI.out.1 HI.out.2.1 HI.out.2.2.1 HI.out.2.2.2 (by rfl) (by decide) _ Rs.length (rvs L) (by rfl) hown3 ⟨w8.heap.size, 0, none⟩ 1 1 [.slice qa q.vb.length qcap, .string q.kd, .string q.tm, .string q.pf] (by rfl) (by rfl) (news_21 hgrow3 (by rfl)) (four_oneCell _ _ _ _ _ _) (by decide) (by unfold maxLen; omega) (by omega) (by have := hB3.size; simp at this; omega) _ (by rfl) ?_
               intro g6 cap6 w6 hown6 hgrow6 hat6 hlt6
               have hB6 := owns_grown hown3 hgrow6 (by have := hB3.size; simp at this; omega))
            | (refine step_append_lies _ (by rfl) (.tmp 70) (.tmp 72) 24 (by rfl) w8.heap.size 27 i0 (.agg #[.slice none 0 0, .string ⟨#[]⟩, .string ⟨#[]⟩, .string ⟨#[]⟩]) 4 72 Tryd.underlying24 HI.out.1 HI.out.2.1 HI.out.2.2.1 HI.out.2.2.2 (by rfl) (by decide) _ Rs.length (rvs L) (by rfl) (owns_below hown3 (one_al _ _)) ⟨w3.heap.size, 0, none⟩ 1 1 [.slice qa q.vb.length qcap, .string q.kd, .string q.tm, .string q.pf] (by rfl) (by rfl) (cell_new4 _ _ _ _ _ _ _ rfl) (four_oneCell _ _ _ _ _ _) (by decide) (by unfold maxLen; omega) (by omega) (by have := hB3.size; simp at this; (try simp) <;> omega) _ (by rfl) ?_
               intro g6 cap6 w6 hown6 hgrow6 hat6 hlt6
               have hB6 := owns_grown (owns_below hown3 (one_al _ _)) hgrow6 (by have := hB3.size; simp at this; (try simp) <;> omega))
            | (go_at_call 5
               have hb6 := Held1.base (W0 := w8) (b1 := κ) (cs1 := #[.slice qa q.vb.length qcap, .string q.kd, .string q.tm, .string q.pf]) (W := w6) (by assumption)
               have hru : RusAt w.heap.size w6 (.slice (some ⟨g6, 0, none⟩) (Rs.length + 1) cap6) (Rs ++ [q]) := by
                 have := rus_of_row (L := L ++ [(.slice qa q.vb.length qcap, q)]) (lo := w.heap.size) (by rw [rvs_app]; exact hown6) (by rw [List.length_append, hLl]; rfl) hz8 (fun x hx => by
                   rcases List.mem_append.1 hx with hx | hx
                   · exact ⟨(HIN.out x hx).1.below hb6, (HIN.out x hx).2⟩
                   · rw [List.mem_singleton.1 hx]; exact ⟨HS8.out.ints.below hb6, HZ.out⟩)
                 rw [List.map_append, HLR.out] at this
                 exact this
               refine (implCovers_any _ _ _ _ _ _ Ts (Rs ++ [q]) q w6 (HS8.out.tms.below hb6) hru (HS8.out.ints.below hb6) HZ.out).mono ?_
               rintro e w9 ⟨rfl, hb9⟩
               rw [HCS.out]
               have HB9 : Hid (Below w8.heap.size w8 w9) := hb6.trans (hb9.mono hb6.size)))
        all_goals go_wp2
        all_goals go_meet
        all_goals exact ⟨rfl, HB9.out⟩
    case rest =>
      obtain ⟨hc11, hwn⟩ := hcut
      rw [HAL.out] at hc11
      subst hc11
      have HS9 := hide (HS8.out.on hwn)
      clear hwn HS8
      go_wp2_with fail
      refine (drawAllows_any _ b2 wc (H2.out.below HS9.out.below)).mono ?_
      rintro e w10 ⟨tv2, qv2, q2, av, ak2, at2, an2, rfl, ⟨ta2, tn2, tc2, rfl⟩, ⟨qa2, qn2, qc2, rfl⟩, hb10⟩
      have HS10 := hide (HS9.out.on hb10)
      clear hb10 HS9
      go_wp2_with fail
      generalize hW11 : (World.alloc (w10.alloc _) _) = W11
      have hb11 : Below w10.heap.size w10 W11 := by rw [← hW11]; exact (one_al _ _).alloc (by simp) _
      have HS15 := hide (HS10.out.on hb11)
      clear hW11 hb11 HS10
      generalize W11 = w15 at *
      refine (drawCovers_any _ b2 w15 (H2.out.below HS15.out.below)).mono ?_
      rintro e w16 ⟨tv3, sv3, qv3, Ts3, Os, q3, rfl, hT3, hR3, hq3, hlT3, hlR3, hqf3, hb16⟩
      obtain ⟨ta3, tcap3, rfl⟩ := hT3.form
      obtain ⟨sa3, scap3, rfl⟩ := hR3.form
      obtain ⟨qa3, qcap3, rfl⟩ := hq3.form
      have HS16 := hide (HS15.out.on hb16)
      have HO16 := hide (hR3.mono (lo' := w.heap.size) HS15.out.below.size)
      clear hT3 hR3 hq3 hqf3 hb16 HS15
      go_wp2
      generalize hW17 : w16.alloc _ = W17
      have hb17 : Below w16.heap.size w16 W17 := by rw [← hW17]; exact one_al _ _
      have HS17 := hide (HS16.out.on hb17)
      have HO17 := hide (HO16.out.below hb17)
      clear hW17 hb17 HS16 HO16
      go_loopw [18] (fun i wr => ∃ k : Nat, i = .int .i64 k ∧ k ≤ Rs.length ∧ Lw w κ ta tcap Ts sa scap Rs qa qcap q wr ∧ RusAt w.heap.size wr (.slice sa3 Os.length scap3) Os ∧ ∀ j (h : j < Rs.length), j < k → coversB Ts Os Rs[j] = true) (fun i _ => Rs.length - (intOf i).toNat)
      case atStart => exact ⟨0, rfl, Nat.zero_le _, HS17.out, HO17.out, fun j _ h => by omega⟩
      case round =>
        clear HS17 HO17
        obtain ⟨k, rfl, hk, hS, hO, hall⟩ := hrel
        have HS := hide hS
        have HO := hide hO
        have HA := hide hall
        clear hS hO hall
        by_cases hlt : k < Rs.length
        · obtain ⟨b, off, rfl, hbw, hc⟩ := HS.out.rus.full' (by omega)
          obtain ⟨hz, vv, hcell, hv⟩ := hc k hlt
          obtain ⟨d0, d1, d2, d3⟩ := hcell
          obtain ⟨va, vcap, rfl⟩ := hv.form
          have HV := hide hv
          have HZr := hide hz
          clear hc hz hv
          go_wp2_with fail
          refine (implCovers_any _ _ _ _ _ _ Ts Os Rs[k] wr HS.out.tms HO.out HV.out HZr.out).mono ?_
          rintro e w18 ⟨rfl, hb18⟩
          have HS18 := hide (HS.out.on hb18)
          have HO18 := hide (HO.out.below hb18)
          clear hb18 HS HO HV d0 d1 d2 d3
          cases hcr : coversB Ts Os Rs[k] with
          | false =>
            go_wp2
            go_ret
            exact ⟨rfl, HS18.out.below⟩
          | true =>
            have HCR := hide hcr
            go_wp2
            go_roundw
            case rel => exact ⟨k + 1, by go_num, by omega, HS18.out, HO18.out, fun j hj hjk => by
                          by_cases e : j = k
                          · subst e; exact HCR.out
                          · exact HA.out j hj (by omega)⟩
            case measure => simp [intOf]; omega
        · go_wp2
          go_ret
          exact ⟨rfl, HS.out.below⟩
end Go.Proofs.YtobijdenhbpdfaaDoor
