import Derived.Test.YtlednecohppljaaGreatV16
namespace Go.Proofs.YtlednecohppljaaGreat
open Go.RowKit Go.Deep

/-! rows that grow and may be nil; rows whose things have lists of their own inside -/
def NRow {X : Type} (f : X → List Value) (n : Nat) (w : World) (lo hi : Nat) (v : Value) (L : List X) : Prop := (v = .slice none 0 0 ∧ L = []) ∨ FRow f n w lo hi v L
theorem NRow.below {X : Type} {f : X → List Value} {n : Nat} {w w' : World} {lo hi : Nat} {v : Value} {L : List X} (h : NRow f n w lo hi v L) (hb : Below w.heap.size w w') : NRow f n w' lo hi v L := h.imp id fun h => h.below hb
theorem NRow.touch {X : Type} {f : X → List Value} {n : Nat} {w w' : World} {lo hi lo' hi' : Nat} {v : Value} {L : List X} (h : NRow f n w lo hi v L) (ht : Touch lo' hi' w w') (ho : hi ≤ lo' ∨ hi' ≤ lo) : NRow f n w' lo hi v L := h.imp id fun h => h.touch ht ho
theorem NRow.wide {X : Type} {f : X → List Value} {n : Nat} {w : World} {lo hi lo' hi' : Nat} {v : Value} {L : List X} (h : NRow f n w lo hi v L) (h1 : lo' ≤ lo) (h2 : hi ≤ hi') : NRow f n w lo' hi' v L := h.imp id fun h => h.wide h1 h2
theorem NRow.set {X : Type} {f : X → List Value} {n : Nat} {w : World} {lo hi : Nat} {v : Value} {L : List X} (h : NRow f n w lo hi v L) {p : Addr} (hp : p.block < lo) (u : Value) : NRow f n (w.setCell p u) lo hi v L :=
  h.touch (Touch.setCell p.block (p.block + 1) w p u ⟨Nat.le_refl _, Nat.lt_succ_self _⟩) (Or.inr hp)
theorem NRow.form {X : Type} {f : X → List Value} {n : Nat} {w : World} {lo hi : Nat} {v : Value} {L : List X} (h : NRow f n w lo hi v L) : ∃ a c, v = .slice a L.length c := by
  rcases h with ⟨h, rfl⟩ | ⟨g, cap, h, _⟩
  · exact ⟨none, 0, h⟩
  · exact ⟨_, _, h⟩
theorem NRow.nil {X : Type} (f : X → List Value) (n : Nat) (w : World) (lo hi : Nat) : NRow f n w lo hi (.slice none 0 0) [] := Or.inl ⟨rfl, rfl⟩
theorem run_nilapp {P : Program} (w : World) (t ty e : TypeId) (i : TypeInfo) (z : Value) (size bytes : Nat) (ht : P.underlying t = some (.slice e)) (hi : P.info? e = some i) (hz : i.zero = some z)
    (hsize : i.size = size) (hby : i.bytes = bytes) (hzs : z.cells.size = size) (a : Addr) (m c : Nat) (news : List Value) (hl : news.length = m * size) (hnews : ∀ j u, news[j]? = some u → w.cell? (a.add j) = some u)
    (h0 : 0 < m) (h63 : m ≤ maxLen) (hbytes : m * bytes ≤ 140737488355328) :
    ∃ v' w', (Builtin.append_ #[t, t] ty #[.slice none 0 0, .slice (some a) m c]).run P w = .ok v' w' ∧ w'.ownsRow w.heap.size e size v' m news ∧ Below w.heap.size w w' := by
  subst hsize
  subst hby
  have hsmall : m ≤ 9223372036854775807 := by simp only [maxLen] at h63; omega
  have hge := grownCap_ge w m 0 e
  have hcm : grownCap w m 0 e ≤ maxLen := grownCap_le_maxLen w m 0 e h63
  have hr := run_append_nil (P := P) w t ty e i z ht hi hz a m c news hl hnews h0 (by omega) (by omega)
  refine ⟨_, _, hr, ⟨hl, .inr ⟨w.heap.size, _, _, rfl, Nat.le_refl _, heap_alloc_new w.drew _, hge, hcm, ?_, ?_⟩⟩, ⟨rfl, rfl, rfl, by simp, fun k hk => heap_alloc_old w.drew _ hk⟩⟩
  · simp only [Array.size_append, List.size_toArray, size_zeroCells, hzs, hl, ← Nat.add_mul]
    congr 1
    omega
  · simp only [Array.toList_append]
    rw [← hl]
    exact List.take_left
/-- append to a row that grows or is nil: where it moves or is new, it lies behind all that is there -/
theorem run_nr {X : Type} {f : X → List Value} {n bytes : Nat} (hf : ∀ x, (f x).length = n) (hn : 0 < n) {t e : TypeId} {z : Value} (ht : Tryz.prog.underlying t = some (.slice e)) (hi : (Tryz.prog.info? e).map (fun i => (i.zero, i.size, i.bytes)) = some (some z, n, bytes)) (hzs : z.cells.size = n)
    {w : World} {lo hi' : Nat} {v : Value} {L M : List X} (ty : TypeId) (h : NRow f n w lo hi' v L) (ao : Option Addr) (m c : Nat) (hM : m = M.length) (hm : ao = none → m = 0)
    (hsrc : ∀ ad, ao = some ad → ∀ j u, (flatV f M)[j]? = some u → w.cell? (ad.add j) = some u) (h1 : ∀ u ∈ flatV f M, u.oneCell' = true) (hb : L.length + M.length ≤ 10000000) (hby : bytes ≤ 1000000) :
    ∃ v' w', (Builtin.append_ #[t, t] ty #[v, .slice ao m c]).run Tryz.prog w = .ok v' w' ∧ Touch lo hi' w w' ∧ (NRow f n w' lo hi' v' (L ++ M) ∨ NRow f n w' w.heap.size w'.heap.size v' (L ++ M)) := by
  rcases h with ⟨rfl, rfl⟩ | h
  · have hex : ∃ i, Tryz.prog.info? e = some i ∧ i.zero = some z ∧ i.size = n ∧ i.bytes = bytes := by
      cases hh : Tryz.prog.info? e with
      | none => rw [hh] at hi; simp at hi
      | some i =>
        rw [hh] at hi
        simp only [Option.map_some, Option.some.injEq, Prod.mk.injEq] at hi
        exact ⟨i, rfl, hi.1, hi.2.1, hi.2.2⟩
    obtain ⟨i0, hi0, hz0, hz1, hz2⟩ := hex
    have hlm : (flatV f M).length = M.length * n := flatV_len hf M
    subst hM
    simp only [List.length_nil, Nat.zero_add] at hb
    by_cases h0 : M.length = 0
    · obtain rfl : M = [] := List.eq_nil_of_length_eq_zero h0
      refine ⟨.slice none 0 0, w, ?_, Touch.refl _ _ _, Or.inl (Or.inl ⟨rfl, rfl⟩)⟩
      cases ao with
      | none => simp [Builtin.append_, run_underlying ht, sizeOf, typeInfo, hi0, Builtin.lenOf, Builtin.firstCells]
      | some ad => simp [Builtin.append_, run_underlying ht, sizeOf, typeInfo, hi0, Builtin.lenOf, Builtin.firstCells, loadCells, loadCellsFrom]
    · cases ao with
      | none => exact absurd (hm rfl) h0
      | some ad =>
        obtain ⟨v', w', h2, h3, h4⟩ := run_nilapp (P := Tryz.prog) w t ty e i0 z n bytes ht hi0 hz0 hz1 hz2 hzs ad M.length c (flatV f M) hlm (hsrc ad rfl) (by omega) (by unfold maxLen; omega) (by
            have := Nat.mul_le_mul hb hby
            omega)
        exact ⟨v', w', h2, Touch.below h4, Or.inr (Or.inr (owns_fr hf h3 rfl (by omega)))⟩
  · obtain ⟨v', w', h2, h3, h4⟩ := run_fr hf hn ht hi hzs ty h ao m c hM hm hsrc h1 hb hby
    exact ⟨v', w', h2, h3, h4.imp Or.inr Or.inr⟩
theorem wpList_nr {X : Type} {f : X → List Value} {n bytes : Nat} (hf : ∀ x, (f x).length = n) (hn : 0 < n) {t e : TypeId} {z : Value} (ht : Tryz.prog.underlying t = some (.slice e)) (hi : (Tryz.prog.info? e).map (fun i => (i.zero, i.size, i.bytes)) = some (some z, n, bytes)) (hzs : z.cells.size = n)
    {w : World} {lo hi' : Nat} {v : Value} {L : List X} (M : List X) {ops : Array Oper} {rest : List Oper} {o : Oper} {a : Act} {Q : Exit → Act → World → Prop} (hgd : o.guard = none) (s x : Operand)
    (ho : o.op = .call { callee := .builtin .append, args := #[s, x], argTypes := #[t, t] }) (hs : a.eval s = v) (h : NRow f n w lo hi' v L) (ao : Option Addr) (m c : Nat) (hx : a.eval x = .slice ao m c) (hM : m = M.length) (hm : ao = none → m = 0)
    (hsrc : ∀ ad, ao = some ad → ∀ j u, (flatV f M)[j]? = some u → w.cell? (ad.add j) = some u) (h1 : ∀ u ∈ flatV f M, u.oneCell' = true) (hb : L.length + M.length ≤ 10000000) (hby : bytes ≤ 1000000)
    (K : ∀ v' w', Touch lo hi' w w' → (NRow f n w' lo hi' v' (L ++ M) ∨ NRow f n w' w.heap.size w'.heap.size v' (L ++ M)) → wpList Tryz.prog ops Q rest (a.put o.dst v') w') : wpList Tryz.prog ops Q (o :: rest) a w := by
  obtain ⟨v', w', h2, h3, h4⟩ := run_nr hf hn ht hi hzs o.type h ao m c hM hm hsrc h1 hb hby
  exact wpList_append_run hgd s x _ ho hs hx h2 (K v' w' h3 h4)
theorem NRow.rss {w : World} {lo hi : Nat} {v : Value} {L : List Rs} (h : NRow rsL 2 w lo hi v L) (hz : ∀ i (h : i < L.length), RsSize L[i]) : RssOwn lo hi w v L := by
  rcases h with ⟨h, rfl⟩ | ⟨g, cap, h1, h2⟩
  · exact Or.inl ⟨_, _, h, rfl⟩
  by_cases hL : L = []
  · subst hL; exact Or.inl ⟨_, _, h1, rfl⟩
  · have h0 : 0 < L.length := List.length_pos_iff.2 hL
    refine Or.inr ⟨g, 0, cap, fun _ => g + 1, fun i => if h : i < L.length then L[i] else L[0], h1, hL, Nat.le_trans h2.le h2.mx, h2.le, fun i hi => by simp [hi], h2.lt, h2.bs, Nat.lt_succ_self _, h2.up, fun _ _ => Nat.le_refl _, h2.up, h2.fz, fun i hi => ?_⟩
    simp only [hi, dif_pos]
    have e0 := h2.get rsL_len hi (t := 0) (by omega) (v := .int .i64 L[i].ba) rfl
    have e1 := h2.get rsL_len hi (t := 1) (by omega) (v := .string L[i].tx) rfl
    exact ⟨hz i hi, ⟨by rw [Nat.zero_add]; exact e0, by rw [Nat.zero_add]; exact e1⟩⟩
end Go.Proofs.YtlednecohppljaaGreat
namespace Go.Proofs.YtlednecohppljaaGreat
open Go.RowKit Go.Deep

theorem FR.own {X : Type} {f : X → List Value} {n : Nat} {w : World} {lo hi g cap : Nat} {L : List X} (h : FR f n w lo hi g cap L) : FR f n w g (g + 1) g cap L := ⟨Nat.le_refl _, Nat.lt_succ_self _, h.lt, h.le, h.mx, h.th, h.fz, h.rg⟩
/-- a thing's inner list, apart from the row's own block g -/
def Inn (w : World) (lo hi g : Nat) (x : MX) : Prop := ∃ l u, lo ≤ l ∧ u ≤ hi ∧ (g < l ∨ u ≤ g) ∧ FRow rsL 2 w l u (.slice x.2.1 x.1.sl.length x.2.2) x.1.sl
/-- messages in a row that grows, all of it in [lo, hi) -/
structure MR (w : World) (lo hi g : Nat) (v : Value) (L : List MX) : Prop where
  row : FRow mxL 8 w g (g + 1) v L
  low : lo ≤ g
  up : g < hi
  inn : ∀ i (h : i < L.length), Inn w lo hi g L[i]
theorem MR.below {w w' : World} {lo hi g : Nat} {v : Value} {L : List MX} (h : MR w lo hi g v L) (hb : Below w.heap.size w w') : MR w' lo hi g v L :=
  ⟨h.row.below hb, h.low, h.up, fun i hi => by
    obtain ⟨l, u, h1, h2, h3, h4⟩ := h.inn i hi
    exact ⟨l, u, h1, h2, h3, h4.below hb⟩⟩
theorem MR.wide {w : World} {lo hi hi' g : Nat} {v : Value} {L : List MX} (h : MR w lo hi g v L) (hh : hi ≤ hi') : MR w lo hi' g v L :=
  ⟨h.row, h.low, Nat.lt_of_lt_of_le h.up hh, fun i hi => by
    obtain ⟨l, u, h1, h2, h3, h4⟩ := h.inn i hi
    exact ⟨l, u, h1, Nat.le_trans h2 hh, h3, h4⟩⟩
theorem MR.touch {w w' : World} {lo hi g : Nat} {v : Value} {L : List MX} (h : MR w lo hi g v L) {lo' hi' : Nat} (ht : Touch lo' hi' w w') (hh : hi ≤ lo' ∨ hi' ≤ lo) : MR w' lo hi g v L :=
  ⟨h.row.touch ht (by have := h.low; have := h.up; omega), h.low, h.up, fun i hi => by
    obtain ⟨l, u, h1, h2, h3, h4⟩ := h.inn i hi
    exact ⟨l, u, h1, h2, h3, h4.touch ht (by omega)⟩⟩
theorem MR.lt {w : World} {lo hi g : Nat} {v : Value} {L : List MX} (h : MR w lo hi g v L) : g < w.heap.size := by
  obtain ⟨g', cap, -, hr⟩ := h.row
  have h1 := hr.bs
  have h2 := hr.up
  have h3 := hr.lt
  omega
/-- behind an append of one message -/
theorem MR.snoc {W W' : World} {lo g : Nat} {v v' : Value} {L : List MX} {x : MX} (h : MR W lo W.heap.size g v L) (hx : Inn W lo W.heap.size g x) (ht : Touch g (g + 1) W W') (hf : FRow mxL 8 W' g (g + 1) v' (L ++ [x]) ∨ FRow mxL 8 W' W.heap.size W'.heap.size v' (L ++ [x])) (hlo : lo ≤ W.heap.size) : ∃ g', MR W' lo W'.heap.size g' v' (L ++ [x]) := by
  have key : ∀ i (hi : i < (L ++ [x]).length), Inn W lo W.heap.size g (L ++ [x])[i] := by
    intro i hi
    rw [List.getElem_append]
    split
    · exact h.inn i (by assumption)
    · simpa using hx
  rcases hf with hf | hf
  · refine ⟨g, hf, h.low, Nat.lt_of_lt_of_le h.up ht.size, fun i hi => ?_⟩
    obtain ⟨l, u, h1, h2, h3, h4⟩ := key i hi
    exact ⟨l, u, h1, Nat.le_trans h2 ht.size, h3, h4.touch ht (by omega)⟩
  · obtain ⟨g', cap, e1, e2⟩ := hf
    have hbs := e2.bs
    refine ⟨g', ⟨g', cap, e1, e2.own⟩, Nat.le_trans hlo hbs, e2.lt, fun i hi => ?_⟩
    obtain ⟨l, u, h1, h2, h3, h4⟩ := key i hi
    exact ⟨l, u, h1, Nat.le_trans h2 ht.size, Or.inr (Nat.le_trans h2 hbs), h4.touch ht (by omega)⟩
theorem MR.rms {w : World} {lo hi g : Nat} {v : Value} {L : List MX} {Xl : List Rm} (h : MR w lo hi g v L) (hL : L.map (·.1) = Xl) (hz : ∀ i (h : i < Xl.length), (∀ j (hj : j < Xl[i].sl.length), RsSize Xl[i].sl[j]) ∧ Xl[i].tx.size ≤ maxLen) : RmsAt lo w v Xl := by
  subst hL
  refine h.row.rms h.low fun i hi => ?_
  obtain ⟨l, u, h1, h2, h3, h4⟩ := h.inn i hi
  have := hz i (by simpa using hi)
  simp only [List.getElem_map] at this
  exact ⟨(h4.rss this.1).at.mono h1, this.2⟩
theorem RmsAt.sizes {lo : Nat} {w : World} {v : Value} {Xl : List Rm} (h : RmsAt lo w v Xl) : ∀ i (h : i < Xl.length), (∀ j (hj : j < Xl[i].sl.length), RsSize Xl[i].sl[j]) ∧ Xl[i].tx.size ≤ maxLen := by
  intro i hi
  obtain ⟨a, cap, rfl⟩ := h.form
  obtain ⟨b, off, -, -, -, hc⟩ := h.full' (by omega)
  obtain ⟨cs, -, a0, k0, -, hf⟩ := hc i hi
  exact ⟨fun j hj => hf.l0.sizes j hj, hf.s0⟩

set_option maxRecDepth 20000 in
set_option maxHeartbeats 8000000 in
theorem msgsF_any (lo : Nat) (v : Value) (Xl : List Rm) (w : World) (hv : RmsAt lo w v Xl) (hn : RmsSmall Xl) :
    Calls Tryz.prog 70 #[v] w fun e w' => ∃ v' g L, e = .returned v' ∧ Below w.heap.size w w' ∧ MR w' w.heap.size w'.heap.size g v' L ∧ L.map (·.1) = Xl := by
  have HV := hide hv
  have HN := hide hn.2
  have hn1 := hn.1
  obtain ⟨a, cap, rfl⟩ := hv.form
  clear hv hn
  go_enter Tryz.func70, Tryz.ntmps70
  go_wp2
  go_loopw [3, 4] (fun o i wr => ∃ (k g : Nat) (L : List MX), i = .int .i64 k ∧ k ≤ Xl.length ∧ Below w.heap.size w wr ∧ MR wr w.heap.size wr.heap.size g o L ∧ L.map (·.1) = Xl.take k) (fun _ i _ => Xl.length - (intOf i).toNat)
  case atStart =>
    exact ⟨0, w.heap.size, [], rfl, by omega, one_al _ _, ⟨⟨w.heap.size, 0, rfl, (fr_new mxL 8 w _ _ 0 rfl (Nat.zero_le _)).own⟩, Nat.le_refl _, by simp, fun i hi => by simp at hi⟩, by simp⟩
  case round =>
    obtain ⟨k, g, L, rfl, hk, hb, hm, hL⟩ := hrel
    have HB := hide hb
    have HM := hide hm
    have HL := hide hL
    have HLl : Hid (L.length = k) := by
      unfold Hid
      have := congrArg List.length hL
      rw [List.length_map, List.length_take] at this
      omega
    clear hb hm hL
    obtain ⟨gg, cp, ho, hfr⟩ := HM.out.row
    subst ho
    clear hfr
    by_cases hlt : k < Xl.length
    · obtain ⟨b, off, rfl, hbw, -, hc⟩ := HV.out.full' (by omega)
      obtain ⟨m, hm'⟩ : ∃ m, m = Xl[k] := ⟨_, rfl⟩
      obtain ⟨ms, hr, b0, m0, rfl, hf⟩ := hc k hlt
      rw [← hm'] at hf hr
      have HS : Hid (m.sl.length ≤ 1048576) := by unfold Hid; rw [hm']; exact (HN.out k hlt).1
      have HF : Hid (RssAt lo wr (.slice b0 m.sl.length m0) m.sl) := hf.l0.below HB.out
      have HR := rng_below hr HB.out hbw
      have HX := hide hm'
      have s0 : wr.cell? ⟨b, off + k * 8, none⟩ = some (.int .i64 m.kd) := HR 0 _ rfl
      have s1 : wr.cell? ⟨b, off + k * 8 + 1, none⟩ = some (.int .i64 m.fr) := HR 1 _ rfl
      have s2 : wr.cell? ⟨b, off + k * 8 + 2, none⟩ = some (.int .i64 m.tt) := HR 2 _ rfl
      have s3 : wr.cell? ⟨b, off + k * 8 + 3, none⟩ = some (.int .i64 m.ba) := HR 3 _ rfl
      have s4 : wr.cell? ⟨b, off + k * 8 + 4, none⟩ = some (.int .i64 m.ix) := HR 4 _ rfl
      have s5 : wr.cell? ⟨b, off + k * 8 + 5, none⟩ = some (.int .i64 m.kn) := HR 5 _ rfl
      have s6 : wr.cell? ⟨b, off + k * 8 + 6, none⟩ = some (.string m.tx) := HR 6 _ rfl
      have s7 : wr.cell? ⟨b, off + k * 8 + 7, none⟩ = some (.slice b0 m.sl.length m0) := HR 7 _ rfl
      have i0 : (0 : Int) ≤ (k : Int) := by omega
      have i1 : (k : Int) < (Xl.length : Int) := by omega
      clear hc hr hf hm' HR
      go_wp2_with fail
      clear s0 s1 s2 s3 s4 s5 s6 s7
      refine (msgF_any lo m b0 m0 _ HF.out HS.out).mono ?_
      rintro e w1 ⟨b1, m1, rfl, hb1, hf1⟩
      have HB1 : Hid (Below w.heap.size w w1) := bt HB.out hb1
      have HM1 := hide ((HM.out.below hb1).wide hb1.size)
      have HI1 : Hid (Inn w1 w.heap.size w1.heap.size g (m, b1, m1)) := ⟨_, _, HB.out.size, Nat.le_refl _, Or.inl HM.out.up, hf1⟩
      clear hb1 hf1 HM HB HF
      rw [show (rmL m b1 m1).toArray = #[.int .i64 m.kd, .int .i64 m.fr, .int .i64 m.tt, .int .i64 m.ba, .int .i64 m.ix, .int .i64 m.kn, .string m.tx, .slice b1 m.sl.length m1] from rfl]
      have HIo : Hid (∀ o, Inn (w1.alloc o) w.heap.size (w1.alloc o).heap.size g (m, b1, m1)) := fun o => by
        obtain ⟨l, u, h1, h2, h3, h4⟩ := HI1.out
        exact ⟨l, u, h1, Nat.le_trans h2 (one_al w1 o).size, h3, h4.below (one_al _ _)⟩
      go_wp2_with (at_builtin; refine wpList_fr mxL_len (by decide) Tryz.underlying38 Rm_info rfl (w := w1.alloc _) (lo := g) (hi' := g + 1) (L := L) [(m, b1, m1)] rfl (.tmp 12) (.tmp 18) rfl rfl (HM1.out.below (one_al _ _)).row (some ⟨w1.heap.size, 0, none⟩) 1 1 rfl rfl (fun e => by cases e) (fun ad e j u hu => by
          injection e with e
          subst e
          rw [Addr.add_lit, Nat.zero_add, (Box.new w1 _ _ _ rfl).cell j]
          simpa [flatV, mxL, rmL] using hu) (mxL_one _) (by have := HLl.out; simp; omega) (by decide) ?_; intro v' w' h1 h2; have H1 := hide h1; have H2 := hide h2; clear h1 h2)
      have hsz := HB1.out.size
      obtain ⟨g', hg'⟩ := ((HM1.out.below (one_al _ _)).wide (one_al _ _).size).snoc (HIo.out _) H1.out H2.out (by simp; omega)
      have HG := hide hg'
      have HBn : Hid (Below w.heap.size w w') := (bt HB1.out (one_al _ _)).trans ((H1.out.under (by have := HM1.out.lt; simp; omega)).mono HM1.out.low)
      clear hg'
      go_roundw
      case rel => exact ⟨k + 1, g', L ++ [(m, b1, m1)], by go_num, by omega, HBn.out, HG.out, by rw [List.map_append, HL.out, List.take_succ_eq_append_getElem hlt, HX.out]; rfl⟩
      case measure => simp [intOf]; omega
    · go_wp2
      go_ret
      exact ⟨_, g, L, rfl, HB.out, HM.out, by rw [HL.out, List.take_of_length_le (by omega)]⟩
end Go.Proofs.YtlednecohppljaaGreat
