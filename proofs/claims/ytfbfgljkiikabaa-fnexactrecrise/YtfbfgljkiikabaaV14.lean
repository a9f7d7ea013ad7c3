import Derived.Test.YtfbfgljkiikabaaV13
import Derived.Deep.DeepCutAuto
namespace Go.Proofs.Ytfbfgljkiikabaa
open Go.RowKit Go.Deep

theorem FRow.set {X : Type} {f : X → List Value} {n : Nat} {w : World} {lo hi : Nat} {v : Value} {L : List X} (h : FRow f n w lo hi v L) {p : Addr} (hp : p.block < lo) (u : Value) : FRow f n (w.setCell p u) lo hi v L :=
  h.touch (Touch.setCell p.block (p.block + 1) w p u ⟨Nat.le_refl _, Nat.lt_succ_self _⟩) (Or.inr hp)

set_option maxRecDepth 20000 in
set_option maxHeartbeats 4000000 in
theorem diskF_any (lo : Nat) (D : Rd) (a : Option Addr) (c : Nat) (w : World) (hv : RssAt lo w (.slice a D.sl.length c) D.sl) (hn : D.sl.length ≤ 1048576) :
    Calls Try.prog 27 #[.agg #[.int .i64 D.pr, .int .i64 D.kn, .slice a D.sl.length c]] w fun e w' => ∃ b m, e = .returned (.agg #[.int .i64 D.pr, .int .i64 D.kn, .slice b D.sl.length m]) ∧ Below w.heap.size w w' ∧ FRow rsL 2 w' w.heap.size w'.heap.size (.slice b D.sl.length m) D.sl := by
  have HV := hide hv
  clear hv
  go_enter Try.func27, Try.ntmps27
  go_wp2_with fail
  obtain ⟨wz, hwz, FX, FR, HB⟩ : ∃ wz, wz = (w.alloc (.cells #[.int .i64 D.pr, .int .i64 D.kn, .slice a D.sl.length c] 36)).alloc (.cells #[.int .i64 0, .int .i64 0, .slice none 0 0] 36) ∧
      Hid (Box wz w.heap.size #[.int .i64 D.pr, .int .i64 D.kn, .slice a D.sl.length c]) ∧ Hid (Box wz (w.heap.size + 1) #[.int .i64 0, .int .i64 0, .slice none 0 0]) ∧ Hid (Below w.heap.size w wz) :=
    ⟨_, rfl, (Box.new w _ _ _ rfl).on (one_al _ _), Box.new _ _ _ _ (by simp), (one_al _ _).trans ((one_al _ _).mono (by simp))⟩
  rw [← hwz]
  clear hwz
  have hz0 : w.heap.size + 2 ≤ wz.heap.size := by have := FR.out.lt; omega
  refine (slotsF_any lo _ D.sl _ (HV.out.below HB.out) hn).mono ?_
  rintro e x0 ⟨u, rfl, hb, hs⟩
  obtain ⟨g, m0, rfl, hr⟩ := hs
  have hx0 : wz.heap.size ≤ x0.heap.size := hb.size
  have N0 : Hid (FRow rsL 2 x0 wz.heap.size x0.heap.size (.slice (some ⟨g, 0, none⟩) D.sl.length m0) D.sl) := ⟨g, m0, rfl, hr⟩
  replace FX := hide (FX.out.on hb)
  replace FR := hide (FR.out.on hb)
  replace HB := hide (bt HB.out hb)
  clear hb hr
  have g0 := FX.out.cell
  have g1 := FX.out.free
  have g2 := FR.out.cell
  have g3 := FR.out.free
  go_wp2
  refine bodyPost_ret (v := .agg #[.int .i64 D.pr, .int .i64 D.kn, .slice (some ⟨g, 0, none⟩) D.sl.length m0]) (by simp [results, Try.results27, go_sem, g2]) rfl ⟨some ⟨g, 0, none⟩, m0, rfl, ?_, ?_⟩
  · repeat (refine Below.setCell ?_ (by simp only []; omega) _)
    exact HB.out
  · refine FRow.wide (lo := wz.heap.size) (hi := x0.heap.size) ?_ (by omega) (by simp [World.setCell])
    repeat (refine FRow.set ?_ (by simp only []; omega) _)
    exact N0.out

set_option maxRecDepth 20000 in
set_option maxHeartbeats 8000000 in
theorem msgF_any (lo : Nat) (M : Rm) (a : Option Addr) (c : Nat) (w : World) (hv : RssAt lo w (.slice a M.sl.length c) M.sl) (hn : M.sl.length ≤ 1048576) :
    Calls Try.prog 97 #[.agg (rmL M a c).toArray] w fun e w' => ∃ b m, e = .returned (.agg (rmL M b m).toArray) ∧ Below w.heap.size w w' ∧ FRow rsL 2 w' w.heap.size w'.heap.size (.slice b M.sl.length m) M.sl := by
  have HV := hide hv
  clear hv
  show Calls Try.prog 97 #[.agg #[.int .i64 M.kd, .int .i64 M.fr, .int .i64 M.tt, .int .i64 M.ba, .int .i64 M.ix, .int .i64 M.kn, .string M.tx, .slice a M.sl.length c]] w _
  go_enter Try.func97, Try.ntmps97
  go_wp2_with fail
  obtain ⟨wz, hwz, FX, FR, HB⟩ : ∃ wz, wz = (w.alloc (.cells #[.int .i64 M.kd, .int .i64 M.fr, .int .i64 M.tt, .int .i64 M.ba, .int .i64 M.ix, .int .i64 M.kn, .string M.tx, .slice a M.sl.length c] 92)).alloc (.cells #[.int .i64 0, .int .i64 0, .int .i64 0, .int .i64 0, .int .i64 0, .int .i64 0, .string ⟨#[]⟩, .slice none 0 0] 92) ∧
      Hid (Box wz w.heap.size #[.int .i64 M.kd, .int .i64 M.fr, .int .i64 M.tt, .int .i64 M.ba, .int .i64 M.ix, .int .i64 M.kn, .string M.tx, .slice a M.sl.length c]) ∧ Hid (Box wz (w.heap.size + 1) #[.int .i64 0, .int .i64 0, .int .i64 0, .int .i64 0, .int .i64 0, .int .i64 0, .string ⟨#[]⟩, .slice none 0 0]) ∧ Hid (Below w.heap.size w wz) :=
    ⟨_, rfl, (Box.new w _ _ _ rfl).on (one_al _ _), Box.new _ _ _ _ (by simp), (one_al _ _).trans ((one_al _ _).mono (by simp))⟩
  rw [← hwz]
  clear hwz
  have hz0 : w.heap.size + 2 ≤ wz.heap.size := by have := FR.out.lt; omega
  refine (slotsF_any lo _ M.sl _ (HV.out.below HB.out) hn).mono ?_
  rintro e x0 ⟨u, rfl, hb, hs⟩
  obtain ⟨g, m0, rfl, hr⟩ := hs
  have hx0 : wz.heap.size ≤ x0.heap.size := hb.size
  have N0 : Hid (FRow rsL 2 x0 wz.heap.size x0.heap.size (.slice (some ⟨g, 0, none⟩) M.sl.length m0) M.sl) := ⟨g, m0, rfl, hr⟩
  replace FX := hide (FX.out.on hb)
  replace FR := hide (FR.out.on hb)
  replace HB := hide (bt HB.out hb)
  clear hb hr
  have g0 := FX.out.cell
  have g1 := FX.out.free
  have g2 := FR.out.cell
  have g3 := FR.out.free
  go_wp2
  refine bodyPost_ret (v := .agg (rmL M (some ⟨g, 0, none⟩) m0).toArray) (by simp [results, Try.results97, go_sem, g2, rmL]) rfl ⟨some ⟨g, 0, none⟩, m0, rfl, ?_, ?_⟩
  · repeat (refine Below.setCell ?_ (by simp only []; omega) _)
    exact HB.out
  · refine FRow.wide (lo := wz.heap.size) (hi := x0.heap.size) ?_ (by omega) (by simp [World.setCell])
    repeat (refine FRow.set ?_ (by simp only []; omega) _)
    exact N0.out
end Go.Proofs.Ytfbfgljkiikabaa
namespace Go.Proofs.Ytfbfgljkiikabaa
open Go.RowKit Go.Deep

theorem FR.own {X : Type} {f : X → List Value} {n : Nat} {w : World} {lo hi g cap : Nat} {L : List X} (h : FR f n w lo hi g cap L) : FR f n w g (g + 1) g cap L := ⟨Nat.le_refl _, Nat.lt_succ_self _, h.lt, h.le, h.mx, h.th, h.fz, h.rg⟩
/-- a thing's inner list, apart from the row's own block g -/
def Inn (w : World) (lo hi g : Nat) (x : MX) : Prop := ∃ l u, lo ≤ l ∧ l ≤ u ∧ u ≤ hi ∧ (g < l ∨ u ≤ g) ∧ FRow rsL 2 w l u (.slice x.2.1 x.1.sl.length x.2.2) x.1.sl
/-- a row that grows, its inner lists apart from each other, all of it in [lo, hi) -/
structure MR (w : World) (lo hi g : Nat) (v : Value) (L : List MX) : Prop where
  row : FRow mxL 8 w g (g + 1) v L
  low : lo ≤ g
  up : g < hi
  inn : ∃ c : Nat → Nat × Nat, (∀ i, i < L.length → lo ≤ (c i).1 ∧ (c i).1 ≤ (c i).2 ∧ (c i).2 ≤ hi ∧ (g < (c i).1 ∨ (c i).2 ≤ g)) ∧ (∀ i j, i < L.length → j < L.length → i ≠ j → (c i).2 ≤ (c j).1 ∨ (c j).2 ≤ (c i).1) ∧ ∀ i (h : i < L.length), FRow rsL 2 w (c i).1 (c i).2 (.slice L[i].2.1 L[i].1.sl.length L[i].2.2) L[i].1.sl
theorem MR.below {w w' : World} {lo hi g : Nat} {v : Value} {L : List MX} (h : MR w lo hi g v L) (hb : Below w.heap.size w w') : MR w' lo hi g v L := by
  obtain ⟨c, h1, h2, h3⟩ := h.inn
  exact ⟨h.row.below hb, h.low, h.up, c, h1, h2, fun i hi => (h3 i hi).below hb⟩
theorem MR.wide {w : World} {lo hi hi' g : Nat} {v : Value} {L : List MX} (h : MR w lo hi g v L) (hh : hi ≤ hi') : MR w lo hi' g v L := by
  obtain ⟨c, h1, h2, h3⟩ := h.inn
  exact ⟨h.row, h.low, Nat.lt_of_lt_of_le h.up hh, c, fun i hi => ⟨(h1 i hi).1, (h1 i hi).2.1, Nat.le_trans (h1 i hi).2.2.1 hh, (h1 i hi).2.2.2⟩, h2, h3⟩
theorem MR.touch {w w' : World} {lo hi g : Nat} {v : Value} {L : List MX} (h : MR w lo hi g v L) {lo' hi' : Nat} (ht : Touch lo' hi' w w') (hh : hi ≤ lo' ∨ hi' ≤ lo) : MR w' lo hi g v L := by
  obtain ⟨c, h1, h2, h3⟩ := h.inn
  exact ⟨h.row.touch ht (by have := h.low; have := h.up; omega), h.low, h.up, c, h1, h2, fun i hi => (h3 i hi).touch ht (by have := h1 i hi; omega)⟩
theorem MR.lt {w : World} {lo hi g : Nat} {v : Value} {L : List MX} (h : MR w lo hi g v L) : g < w.heap.size := by
  obtain ⟨g', cap, -, hr⟩ := h.row
  have h1 := hr.bs
  have h2 := hr.up
  have h3 := hr.lt
  omega
/-- behind an append of one more, its inner list behind all that was there -/
theorem MR.snoc {W W' : World} {lo n g : Nat} {v v' : Value} {L : List MX} {x : MX} (h : MR W lo n g v L) (_hn : n ≤ W.heap.size) (hx : Inn W n W.heap.size g x) (ht : Touch g (g + 1) W W') (hf : FRow mxL 8 W' g (g + 1) v' (L ++ [x]) ∨ FRow mxL 8 W' W.heap.size W'.heap.size v' (L ++ [x])) (hlo : lo ≤ n) : ∃ g', MR W' lo W'.heap.size g' v' (L ++ [x]) := by
  obtain ⟨c, h1, h2, h3⟩ := h.inn
  obtain ⟨l, u, x1, x2, x3, x4, x5⟩ := hx
  have hsz := ht.size
  have hll : (L ++ [x]).length = L.length + 1 := by simp
  obtain ⟨d, hd⟩ : ∃ d : Nat → Nat × Nat, d = fun i => if i = L.length then (l, u) else c i := ⟨_, rfl⟩
  have e1 : ∀ i, i < L.length → d i = c i := fun i hi => by rw [hd]; exact if_neg (by omega)
  have e2 : d L.length = (l, u) := by rw [hd]; exact if_pos rfl
  have seg : ∀ i, i < (L ++ [x]).length → lo ≤ (d i).1 ∧ (d i).1 ≤ (d i).2 ∧ (d i).2 ≤ W.heap.size ∧ (g < (d i).1 ∨ (d i).2 ≤ g) := fun i hi => by
    by_cases q : i < L.length
    · rw [e1 i q]; have := h1 i q; omega
    · rw [show i = L.length by omega, e2]; exact ⟨by omega, x2, x3, x4⟩
  have ap : ∀ i j, i < (L ++ [x]).length → j < (L ++ [x]).length → i ≠ j → (d i).2 ≤ (d j).1 ∨ (d j).2 ≤ (d i).1 := fun i j hi hj hne => by
    by_cases q : i < L.length
    · by_cases r : j < L.length
      · rw [e1 i q, e1 j r]; exact h2 i j q r hne
      · rw [e1 i q, show j = L.length by omega, e2]; have := h1 i q; simp only []; omega
    · rw [show i = L.length by omega, e2, e1 j (by omega)]; have := h1 j (by omega); simp only []; omega
  have inn : ∀ i (hi : i < (L ++ [x]).length), FRow rsL 2 W' (d i).1 (d i).2 (.slice (L ++ [x])[i].2.1 (L ++ [x])[i].1.sl.length (L ++ [x])[i].2.2) (L ++ [x])[i].1.sl := fun i hi => by
    have hs := seg i hi
    refine FRow.touch ?_ ht (by omega)
    by_cases q : i < L.length
    · rw [e1 i q, List.getElem_append_left q]; exact h3 i q
    · have e : i = L.length := by omega
      subst e
      have ex : (L ++ [x])[L.length] = x := by simp
      rw [e2, ex]; exact x5
  rcases hf with hf | hf
  · exact ⟨g, hf, h.low, by have := h.up; omega, d, fun i hi => by have := seg i hi; omega, ap, inn⟩
  · obtain ⟨g', cap, q1, q2⟩ := hf
    have hbs := q2.bs
    exact ⟨g', ⟨g', cap, q1, q2.own⟩, by omega, q2.lt, d, fun i hi => by have := seg i hi; omega, ap, inn⟩
theorem MR.rms {w : World} {lo hi g : Nat} {v : Value} {L : List MX} {Xl : List Rm} (h : MR w lo hi g v L) (hL : L.map (·.1) = Xl) (hz : ∀ i (h : i < Xl.length), (∀ j (hj : j < Xl[i].sl.length), RsSize Xl[i].sl[j]) ∧ Xl[i].tx.size ≤ maxLen) : RmsAt lo w v Xl := by
  subst hL
  refine h.row.rms h.low fun i hi => ?_
  obtain ⟨c, h1, h2, h3⟩ := h.inn
  have := hz i (by simpa using hi)
  simp only [List.getElem_map] at this
  exact ⟨((h3 i hi).rss this.1).at.mono (h1 i hi).1, this.2⟩
theorem RmsAt.sizes {lo : Nat} {w : World} {v : Value} {Xl : List Rm} (h : RmsAt lo w v Xl) : ∀ i (h : i < Xl.length), (∀ j (hj : j < Xl[i].sl.length), RsSize Xl[i].sl[j]) ∧ Xl[i].tx.size ≤ maxLen := by
  intro i hi
  obtain ⟨a, cap, rfl⟩ := h.form
  obtain ⟨b, off, -, -, -, hc⟩ := h.full' (by omega)
  obtain ⟨cs, -, a0, k0, -, hf⟩ := hc i hi
  exact ⟨fun j hj => hf.l0.sizes j hj, hf.s0⟩

set_option maxRecDepth 20000 in
set_option maxHeartbeats 8000000 in
theorem msgsF_any (lo : Nat) (v : Value) (Xl : List Rm) (w : World) (hv : RmsAt lo w v Xl) (hn : RmsSmall Xl) :
    Calls Try.prog 90 #[v] w fun e w' => ∃ v' g L, e = .returned v' ∧ Below w.heap.size w w' ∧ MR w' w.heap.size w'.heap.size g v' L ∧ L.map (·.1) = Xl := by
  have HV := hide hv
  have HN := hide hn.2
  have hn1 := hn.1
  obtain ⟨a, cap, rfl⟩ := hv.form
  clear hv hn
  go_enter Try.func90, Try.ntmps90
  go_wp2
  go_loopw [3, 4] (fun o i wr => ∃ (k g : Nat) (L : List MX), i = .int .i64 k ∧ k ≤ Xl.length ∧ Below w.heap.size w wr ∧ MR wr w.heap.size wr.heap.size g o L ∧ L.map (·.1) = Xl.take k) (fun _ i _ => Xl.length - (intOf i).toNat)
  case atStart =>
    exact ⟨0, w.heap.size, [], rfl, by omega, one_al _ _, ⟨⟨w.heap.size, 0, rfl, (fr_new mxL 8 w _ _ 0 rfl (Nat.zero_le _)).own⟩, Nat.le_refl _, by simp, ⟨fun _ => (0, 0), fun i hi => absurd hi (Nat.not_lt_zero _), fun i j hi => absurd hi (Nat.not_lt_zero _), fun i hi => absurd hi (Nat.not_lt_zero _)⟩⟩, by simp⟩
  case round =>
    obtain ⟨k, g, L, rfl, hk, hb, hm, hL⟩ := hrel
    have HB := hide hb
    have HM := hide hm
    have HL := hide hL
    have HLl : Hid (L.length = k) := by
      unfold Hid
      have := congrArg List.length hL
      rw [List.length_map, List.length_take] at this
      omega
    clear hb hm hL
    obtain ⟨gg, cp, ho, hfr⟩ := HM.out.row
    subst ho
    clear hfr
    by_cases hlt : k < Xl.length
    · obtain ⟨b, off, rfl, hbw, -, hc⟩ := HV.out.full' (by omega)
      obtain ⟨m, hm'⟩ : ∃ m, m = Xl[k] := ⟨_, rfl⟩
      obtain ⟨ms, hr, b0, m0, rfl, hf⟩ := hc k hlt
      rw [← hm'] at hf hr
      have HS : Hid (m.sl.length ≤ 1048576) := by unfold Hid; rw [hm']; exact (HN.out k hlt).1
      have HF : Hid (RssAt lo wr (.slice b0 m.sl.length m0) m.sl) := hf.l0.below HB.out
      have HR := rng_below hr HB.out hbw
      have HX := hide hm'
      have s0 : wr.cell? ⟨b, off + k * 8, none⟩ = some (.int .i64 m.kd) := HR 0 _ rfl
      have s1 : wr.cell? ⟨b, off + k * 8 + 1, none⟩ = some (.int .i64 m.fr) := HR 1 _ rfl
      have s2 : wr.cell? ⟨b, off + k * 8 + 2, none⟩ = some (.int .i64 m.tt) := HR 2 _ rfl
      have s3 : wr.cell? ⟨b, off + k * 8 + 3, none⟩ = some (.int .i64 m.ba) := HR 3 _ rfl
      have s4 : wr.cell? ⟨b, off + k * 8 + 4, none⟩ = some (.int .i64 m.ix) := HR 4 _ rfl
      have s5 : wr.cell? ⟨b, off + k * 8 + 5, none⟩ = some (.int .i64 m.kn) := HR 5 _ rfl
      have s6 : wr.cell? ⟨b, off + k * 8 + 6, none⟩ = some (.string m.tx) := HR 6 _ rfl
      have s7 : wr.cell? ⟨b, off + k * 8 + 7, none⟩ = some (.slice b0 m.sl.length m0) := HR 7 _ rfl
      have i0 : (0 : Int) ≤ (k : Int) := by omega
      have i1 : (k : Int) < (Xl.length : Int) := by omega
      clear hc hr hf hm' HR
      go_wp2_with fail
      clear s0 s1 s2 s3 s4 s5 s6 s7
      refine (msgF_any lo m b0 m0 _ HF.out HS.out).mono ?_
      rintro e w1 ⟨b1, m1, rfl, hb1, hf1⟩
      have HB1 : Hid (Below w.heap.size w w1) := bt HB.out hb1
      have HM1 := hide (HM.out.below hb1)
      have hnw := hb1.size
      have hlw := HB.out.size
      have HI1 : Hid (Inn w1 wr.heap.size w1.heap.size g (m, b1, m1)) := ⟨_, _, Nat.le_refl _, hb1.size, Nat.le_refl _, Or.inl HM.out.up, hf1⟩
      clear hb1 hf1 HM HB HF
      rw [show (rmL m b1 m1).toArray = #[.int .i64 m.kd, .int .i64 m.fr, .int .i64 m.tt, .int .i64 m.ba, .int .i64 m.ix, .int .i64 m.kn, .string m.tx, .slice b1 m.sl.length m1] from rfl]
      have HIo : Hid (∀ o, Inn (w1.alloc o) wr.heap.size (w1.alloc o).heap.size g (m, b1, m1)) := fun o => by
        obtain ⟨l, u, h1, h0, h2, h3, h4⟩ := HI1.out
        exact ⟨l, u, h1, h0, Nat.le_trans h2 (one_al w1 o).size, h3, h4.below (one_al _ _)⟩
      go_wp2_with (at_builtin; refine wpList_fr mxL_len (by decide) Try.underlying37 Rm_info rfl (w := w1.alloc _) (lo := g) (hi' := g + 1) (L := L) [(m, b1, m1)] rfl (.tmp 12) (.tmp 18) rfl rfl (HM1.out.below (one_al _ _)).row (some ⟨w1.heap.size, 0, none⟩) 1 1 rfl rfl (fun e => by cases e) (fun ad e j u hu => by
          injection e with e
          subst e
          rw [Addr.add_lit, Nat.zero_add, (Box.new w1 _ _ _ rfl).cell j]
          simpa [flatV, mxL, rmL] using hu) (mxL_one _) (by have := HLl.out; simp; omega) (by decide) ?_; intro v' w' h1 h2; have H1 := hide h1; have H2 := hide h2; clear h1 h2)
      have hsz := HB1.out.size
      obtain ⟨g', hg'⟩ := (HM1.out.below (one_al _ _)).snoc (by simp; omega) (HIo.out _) H1.out H2.out hlw
      have HG := hide hg'
      have HBn : Hid (Below w.heap.size w w') := (bt HB1.out (one_al _ _)).trans ((H1.out.under (by have := HM1.out.lt; simp; omega)).mono HM1.out.low)
      clear hg'
      go_roundw
      case rel => exact ⟨k + 1, g', L ++ [(m, b1, m1)], by go_num, by omega, HBn.out, HG.out, by rw [List.map_append, HL.out, List.take_succ_eq_append_getElem hlt, HX.out]; rfl⟩
      case measure => simp [intOf]; omega
    · go_wp2
      go_ret
      exact ⟨_, g, L, rfl, HB.out, HM.out, by rw [HL.out, List.take_of_length_le (by omega)]⟩
end Go.Proofs.Ytfbfgljkiikabaa
