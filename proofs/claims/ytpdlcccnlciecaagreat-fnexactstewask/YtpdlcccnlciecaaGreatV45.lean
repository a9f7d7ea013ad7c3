import Derived.Test.YtpdlcccnlciecaaGreatV40
import Derived.Test.YtpdlcccnlciecaaGreatV44
import Derived.Deep.AppendLies
import Derived.Lib.LazyBuf
namespace Go.Proofs.YtpdlcccnlciecaaGreat
open Go.RowKit Go.Deep

/-! a region that draws: its first n operations are quiet in a class of worlds, and the rest waits for all of them -/
section
variable {P : Program} {ops : Array Oper} {md : Region.Mode} {C : World → Prop} {Q' : Exit → Act → World → Prop} {n m : Nat}

/-- operation j waits for operation k -/
def waitsFor (md : Region.Mode) (ops : Array Oper) (j k : Nat) : Bool := match ops[j]? with
  | some oj => oj.after.any fun e => Region.binds md e && e.on == k
  | none => false
/-- each of the first n is waited for by a later one of them, or by number n; each behind n waits for one that stands from n on -/
def tailB (md : Region.Mode) (ops : Array Oper) (n : Nat) : Bool :=
  ((List.range n).all fun k => (List.range (n + 1)).any fun c => decide (k < c) && waitsFor md ops c k) &&
  ((List.range ops.size).all fun j => decide (j ≤ n) || (List.range j).any fun k => decide (n ≤ k) && waitsFor md ops j k)
/-- what is listed has nothing unlisted ahead of it -/
def Down (md : Region.Mode) (ops : Array Oper) (listed : Array Bool) : Prop := ∀ j k, waitsFor md ops j k = true → listed.getD j true = true → listed.getD k true = true
theorem waitsFor_ready {listed : Array Bool} {j k : Nat} (h : waitsFor md ops j k = true) (hj : j ∈ Region.ready md ops listed) : listed.getD k true = true := by
  obtain ⟨-, oj, hoj, hall⟩ := mem_ready.1 hj
  unfold waitsFor at h
  rw [hoj] at h
  obtain ⟨e, he, hb⟩ := Array.any_eq_true'.1 h
  simp only [Bool.and_eq_true, beq_iff_eq] at hb
  have h2 := hall e he hb.1
  rw [hb.2] at h2
  rcases Nat.lt_or_ge k listed.size with h' | h'
  · simp [h'] at h2 ⊢; exact h2
  · simp [Array.getElem?_eq_none h'] at h2
theorem Down.next {listed : Array Bool} (h : Down md ops listed) {i : Nat} (hi : i ∈ Region.ready md ops listed) : Down md ops (listed.setIfInBounds i true) := by
  intro j k hw hj
  by_cases hk : i = k
  · subst hk
    rcases Nat.lt_or_ge i listed.size with h' | h'
    · simp [h']
    · simp [h']
  · rw [getD_set_ne true hk]
    by_cases hij : i = j
    · subst hij; exact waitsFor_ready hw hi
    · rw [getD_set_ne true hij] at hj; exact h j k hw hj
theorem tail_n (hT : tailB md ops n = true) {listed : Array Bool} (hd : Down md ops listed) : ∀ (f k : Nat), n - k ≤ f → k < n → listed.getD k true = false → ∃ c, waitsFor md ops n c = true ∧ listed.getD c true = false
  | 0, k, hf, hk, _ => by omega
  | f + 1, k, hf, hk, hu => by
    have h1 := (Bool.and_eq_true _ _ ▸ hT : _ ∧ _).1
    rw [List.all_eq_true] at h1
    have h2 := h1 k (List.mem_range.2 hk)
    rw [List.any_eq_true] at h2
    obtain ⟨c, hc, hcw⟩ := h2
    rw [List.mem_range] at hc
    rw [Bool.and_eq_true, decide_eq_true_eq] at hcw
    by_cases hcn : c = n
    · subst hcn; exact ⟨k, hcw.2, hu⟩
    · refine tail_n hT hd f c (by omega) (by omega) ?_
      cases hx : listed.getD c true with
      | false => rfl
      | true => rw [hd c k hcw.2 hx] at hu; cases hu
theorem tail_un (hT : tailB md ops n = true) {listed : Array Bool} (hd : Down md ops listed) {k : Nat} (hk : k < n) (hu : listed.getD k true = false) : ∀ (f j : Nat), j ≤ f → n ≤ j → j < ops.size → ∃ c, waitsFor md ops j c = true ∧ listed.getD c true = false
  | f, j, hf, hn, hj => by
    by_cases he : j = n
    · subst he; exact tail_n hT hd _ k (Nat.le_refl _) hk hu
    · have h1 := (Bool.and_eq_true _ _ ▸ hT : _ ∧ _).2
      rw [List.all_eq_true] at h1
      have h2 := h1 j (List.mem_range.2 hj)
      rw [Bool.or_eq_true, decide_eq_true_eq] at h2
      rcases h2 with h2 | h2
      · omega
      · rw [List.any_eq_true] at h2
        obtain ⟨c, hc, hcw⟩ := h2
        rw [List.mem_range] at hc
        rw [Bool.and_eq_true, decide_eq_true_eq] at hcw
        cases f with
        | zero => omega
        | succ f =>
          obtain ⟨d, hd1, hd2⟩ := tail_un hT hd hk hu f c (by omega) hcw.1 (by omega)
          refine ⟨c, hcw.2, ?_⟩
          cases hx : listed.getD c true with
          | false => rfl
          | true => rw [hd c d hd1 hx] at hd2; cases hd2
theorem tail_ready (hT : tailB md ops n = true) {listed : Array Bool} (hd : Down md ops listed) {k : Nat} (hk : k < n) (hu : listed.getD k true = false) {j : Nat} (hj : j ∈ Region.ready md ops listed) : j < n := by
  rcases Nat.lt_or_ge j n with h | h
  · exact h
  · obtain ⟨-, o, ho, -⟩ := mem_ready.1 hj
    obtain ⟨c, h1, h2⟩ := tail_un hT hd hk hu j j (Nat.le_refl _) h (Array.getElem?_eq_some_iff.1 ho).1
    rw [waitsFor_ready h1 hj] at h2
    cases h2

/-- whatever order is picked: quiet until the first n are done, then as it may be -/
def wpAnyT (P : Program) (md : Region.Mode) (ops : Array Oper) (C : World → Prop) (Q' : Exit → Act → World → Prop) (n m : Nat) : Nat → Array Bool → Act → Prop
  | 0, listed, a => (∀ k, k < n → listed.getD k true = true) ∧ ∀ w, C w → wpAny P md ops Q' m listed a w
  | fuel + 1, listed, a => Region.ready md ops listed ≠ [] ∧ ∀ i ∈ Region.ready md ops listed, qOp P ops C i (wpAnyT P md ops C Q' n m fuel (listed.setIfInBounds i true)) a
theorem wpAny_of_T : ∀ (fuel : Nat) (listed : Array Bool) (a : Act) (w : World), C w → wpAnyT P md ops C Q' n m fuel listed a → wpAny P md ops Q' (fuel + m) listed a w
  | 0, _, _, _, hw, h => by rw [Nat.zero_add]; exact h.2 _ hw
  | fuel + 1, _, _, _, hw, h => by
    rw [Nat.add_right_comm]
    exact ⟨fun h0 => absurd h0 h.1, fun i hi => wpOp_of_qOp hw (fun a' w' hw' h' => wpAny_of_T fuel _ a' w' hw' h') (h.2 i hi)⟩
theorem wpAnyT_first {i : Nat} {oi : Oper} {v : Value} (hi : ops[i]? = some oi) (hsel : ∀ (j : Nat) (o : Oper) cs b, ops[j]? = some o → o.op ≠ .select cs b) (hT : tailB md ops n = true) (hin : i < n) :
    ∀ (fuel : Nat) (listed : Array Bool) (a : Act),
      (∀ j oj, ops[j]? = some oj → j ≠ i → listed.getD j true = false → (∀ e ∈ oj.after, Region.binds md e = true → e.on ≠ i) → oi.apart ops oj = true) →
      Down md ops listed → i ∈ Region.ready md ops listed → YieldsIn P ops C oi v a →
      wpAnyT P md ops C Q' n m fuel (listed.setIfInBounds i true) (a.put oi.dst v) → wpAnyT P md ops C Q' n m (fuel + 1) listed a := by
  intro fuel
  induction fuel with
  | zero =>
    intro listed a _ hd hr hy H
    refine ⟨fun h => (by rw [h] at hr; cases hr), fun j hj => ?_⟩
    by_cases hji : j = i
    · subst hji; exact hy.qOp hi H
    · have hjn := tail_ready hT hd hin (mem_ready.1 hr).1 hj
      have h1 := H.1 j hjn
      rw [getD_set_ne true (Ne.symm hji), (mem_ready.1 hj).1] at h1
      cases h1
  | succ fuel ih =>
    intro listed a hfree hd hr hy H
    refine ⟨fun h => (by rw [h] at hr; cases hr), fun j hj => ?_⟩
    by_cases hji : j = i
    · subst hji; exact hy.qOp hi H
    · have h1 := H.2 j (ready_mono hj hji)
      obtain ⟨hjun, oj, hoj, hall⟩ := mem_ready.1 hj
      have hnot : ∀ e ∈ oj.after, Region.binds md e = true → e.on ≠ i := fun e he hb heq => by
        have h1 := hall e he hb
        have h0 := (mem_ready.1 hr).1
        rw [heq] at h1
        rcases Nat.lt_or_ge i listed.size with h' | h'
        · simp [h'] at h0 h1; rw [h0] at h1; cases h1
        · simp [Array.getElem?_eq_none h'] at h1
      have h2 := qOp_put hoj (hfree j oj hoj hji hjun hnot) (fun cs b => hsel i oi cs b hi) (fun cs b => hsel j oj cs b hoj) hy h1
      have hfree' : ∀ k ok, ops[k]? = some ok → k ≠ i → (listed.setIfInBounds j true).getD k true = false →
          (∀ e ∈ ok.after, Region.binds md e = true → e.on ≠ i) → oi.apart ops ok = true := fun k ok hk hki hun hno => by
        refine hfree k ok hk hki ?_ hno
        by_cases hjk : j = k
        · subst hjk; exact hjun
        · rw [getD_set_ne true hjk] at hun; exact hun
      refine qOp_mono (fun a' h3 => ih (listed.setIfInBounds j true) a' hfree' (hd.next hj) (ready_mono hr (Ne.symm hji)) h3.1 ?_) h2
      rw [Array.setIfInBounds_comm _ _ hji]
      exact h3.2
/-- the first n, in the order of the text -/
def lexT (md : Region.Mode) (ops : Array Oper) (n : Nat) : Nat → Nat → Array Bool → Bool
  | 0, _, listed => (List.range n).all fun k => listed.getD k true
  | f + 1, k, listed => (Region.ready md ops listed).contains k && Region.free md ops listed k && lexT md ops n f (k + 1) (listed.setIfInBounds k true)
/-- what is listed behind them -/
def lsT : Nat → Nat → Array Bool → Array Bool
  | 0, _, listed => listed
  | f + 1, k, listed => lsT f (k + 1) (listed.setIfInBounds k true)
theorem wpAnyT_lex (hs : Region.noSelect ops = true) (hT : tailB md ops n = true) : ∀ (l : List Oper) (k : Nat) (listed : Array Bool) (a : Act), (∀ j, j < l.length → l[j]? = ops[k + j]?) → k + l.length = n → Down md ops listed →
    lexT md ops n l.length k listed = true → wpQuiet P ops C (fun a' => ∀ w, C w → wpAny P md ops Q' m (lsT l.length k listed) a' w) l a → wpAnyT P md ops C Q' n m l.length listed a
  | [], _, _, _, _, _, _, hB, h => ⟨fun k hk => List.all_eq_true.1 (show (List.range n).all _ = true from hB) k (List.mem_range.2 hk), h⟩
  | o :: l, k, listed, a, hl, hn, hd, hB, h => by
    have h0 : ops[k]? = some o := by simpa using (hl 0 (by simp)).symm
    simp only [List.length_cons, lexT, Bool.and_eq_true] at hB
    obtain ⟨⟨hr, hf⟩, hB'⟩ := hB
    rw [List.length_cons] at hn
    have hr' : k ∈ Region.ready md ops listed := by simpa using hr
    have hst : qOp P ops C k (wpQuiet P ops C (fun a' => ∀ w, C w → wpAny P md ops Q' m (lsT l.length (k + 1) (listed.setIfInBounds k true)) a' w) l) a := by unfold qOp; simp only [h0]; exact h
    obtain ⟨v, hy, hK⟩ := yieldsIn_of_qOp h0 hst
    exact wpAnyT_first h0 (Region.noSelect_spec hs) hT (by omega) l.length listed a (Region.free_spec h0 hf) hd hr' hy
      (wpAnyT_lex hs hT l (k + 1) _ _ (fun j hj => by have := hl (j + 1) (by simpa using hj); simpa [Nat.add_assoc, Nat.add_comm 1 j] using this) (by omega) (hd.next hr') hB' hK)
end
theorem down_none (md : Region.Mode) (ops : Array Oper) : Down md ops (Array.replicate ops.size false) := by
  intro j k hw hj
  rcases Nat.lt_or_ge j ops.size with h' | h'
  · simp [h'] at hj
  · unfold waitsFor at hw
    rw [Array.getElem?_eq_none h'] at hw
    cases hw
/-- a region that draws: its first n operations walked once in the order of the text inside a class of worlds, what waits for all of them behind that, as it comes -/
theorem wp_region_tail {P : Program} {id : Nat} {Q : Exit → Act → World → Prop} {a : Act} {w : World} {l t : List Oper} (C : World → Prop) (hm : P.follows .mixedOrders = true)
    (hB : (Region.noSelect (l ++ t).toArray && tailB .any (l ++ t).toArray l.length && lexT .any (l ++ t).toArray l.length l.length 0 (Array.replicate (l ++ t).toArray.size false)) = true) (hC : C w.drew)
    (h : wpQuiet P (l ++ t).toArray (fun w' => ∃ X : In C, w' = X.w) (fun a' => ∀ w', (∃ X : In C, w' = X.w) → wpAny P .any (l ++ t).toArray Q t.length (lsT l.length 0 (Array.replicate (l ++ t).toArray.size false)) a' w') l a) : (Code.region id (l ++ t).toArray true).wp P Q a w := by
  simp only [Bool.and_eq_true] at hB
  refine wp_region_any hm ?_
  have h1 := wpAnyT_lex (m := t.length) (Q' := Q) (C := fun w' => ∃ X : In C, w' = X.w) hB.1.1 hB.1.2 l 0 _ a (fun j hj => by simp [List.getElem?_append_left hj]) (by omega) (down_none _ _) hB.2 h
  have h2 := wpAny_of_T l.length _ a w.drew ⟨⟨_, hC⟩, rfl⟩ h1
  have e : (l ++ t).toArray.size = l.length + t.length := by simp
  rw [← e] at h2
  exact h2
theorem wp_region_tail_at {P : Program} {id : Nat} {Q : Exit → Act → World → Prop} {a : Act} {w : World} {l : List Oper} (n : Nat) (C : World → Prop) (hm : P.follows .mixedOrders = true)
    (hB : (decide (n ≤ l.length) && Region.noSelect l.toArray && tailB .any l.toArray n && lexT .any l.toArray n n 0 (Array.replicate l.length false)) = true) (hC : C w.drew)
    (h : wpQuiet P l.toArray (fun w' => ∃ X : In C, w' = X.w) (fun a' => ∀ w', (∃ X : In C, w' = X.w) → wpAny P .any l.toArray Q (l.length - n) (lsT n 0 (Array.replicate l.length false)) a' w') (l.take n) a) : (Code.region id l.toArray true).wp P Q a w := by
  simp only [Bool.and_eq_true, decide_eq_true_eq] at hB
  have e1 : (l.take n).length = n := by rw [List.length_take]; omega
  have e2 : l.take n ++ l.drop n = l := List.take_append_drop n l
  have e3 : (l.drop n).length = l.length - n := List.length_drop
  have := wp_region_tail (P := P) (id := id) (Q := Q) (a := a) (w := w) (l := l.take n) (t := l.drop n) C hm
  rw [e1, e2, e3] at this
  exact this (by rw [hB.1.1.2, hB.1.2, List.size_toArray, hB.2]; rfl) hC (by rw [List.size_toArray]; exact h)
end Go.Proofs.YtpdlcccnlciecaaGreat
namespace Go.Proofs.YtpdlcccnlciecaaGreat
open Go.RowKit Go.Deep

theorem orL_four (a b c d : Int) : orL [a, b, c, d] = orI a (orI b (orI c d)) := by simp only [orL]; unfold orI; split <;> (try split) <;> (try split) <;> (try split) <;> omega
theorem Up.rng {W0 : World} {β : Nat} {cs : List Value} (h : W0.rangeAt β 0 cs) (hb : β < W0.heap.size) : ∀ W, (∃ X : In (Up W0), W = X.w) → W.rangeAt β 0 cs := fun W hW => by
  obtain ⟨X, rfl⟩ := hW
  exact rng_below h X.h hb

section
variable (lo m : Nat) (sv cv bv : Value) (B : Sb) (x : Sv) (n : Ct) (d : Int) (lk : List Value) (y z : Cp) (w : World)

set_option maxRecDepth 100000 in
set_option maxHeartbeats 8000000 in
theorem compareToEnd_any (hlk : LkIs lk m sv cv bv B x n d) (h : SbAt lo w sv cv bv B) (hx : IxAt w m B) (hy : y.be.size ≤ maxLen) (hz : z.be.size ≤ maxLen) (hu : risR rBe B.bs = true) :
    Calls Tryz.prog 103 #[.agg lk.toArray, .agg #[.string y.se, .int .i64 y.nu, .int .i64 y.ve, .int .i64 y.im, .int .i64 y.st, .bool y.en, .string y.be], .agg #[.string z.se, .int .i64 z.nu, .int .i64 z.ve, .int .i64 z.im, .int .i64 z.st, .bool z.en, .string z.be]] w fun e w' => e = .returned (.int .i64 (soonI B x.im y z)) ∧ Below w.heap.size w w' := by
  have HK := hide h
  have HX := hide hx
  have HY := hide hy
  have HZ := hide hz
  have HU := hide hu
  have HLK := hide hlk
  have HE : Hid (orL [yesI (y.st != 3) (z.st != 3), yesI (y.im != x.im) (z.im != x.im), yesI (drB B y) (drB B z), cmpI z.nu y.nu] = soonI B x.im y z) := orL_four _ _ _ _
  clear h hx hy hz hu hlk
  go_enter Tryz.func103, Tryz.ntmps103
  go_wp2_with fail
  generalize hWa : World.alloc (World.alloc (w.alloc _) _) _ = Wa
  have HB : Hid (Below w.heap.size w Wa) := by unfold Hid; rw [← hWa]; exact ((one_al w _).alloc (by simp) _).alloc (by simp; omega) _
  have F1 : Hid (Box Wa w.heap.size lk.toArray) := by unfold Hid; rw [← hWa]; exact ((Box.new _ _ _ _ rfl).on (one_al _ _)).on (one_al _ _)
  have F2 : Hid (Box Wa (w.heap.size + 1) #[.string y.se, .int .i64 y.nu, .int .i64 y.ve, .int .i64 y.im, .int .i64 y.st, .bool y.en, .string y.be]) := by unfold Hid; rw [← hWa]; exact (Box.new _ _ _ _ (by simp)).on (one_al _ _)
  have F3 : Hid (Box Wa (w.heap.size + 1 + 1) #[.string z.se, .int .i64 z.nu, .int .i64 z.ve, .int .i64 z.im, .int .i64 z.st, .bool z.en, .string z.be]) := by unfold Hid; rw [← hWa]; exact Box.new _ _ _ _ (by simp)
  clear hWa
  have xn : Nonempty (In (Up Wa)) := ⟨⟨Wa, Below.refl _ _⟩⟩
  have xs := fun (Y : In (Up Wa)) => in_self Y
  have q1 : ∀ Y : In (Up Wa), _ := fun Y => Up.cell Y (F2.out.cell 1)
  have q4 : ∀ Y : In (Up Wa), _ := fun Y => Up.cell Y (F2.out.cell 4)
  have r1 : ∀ Y : In (Up Wa), _ := fun Y => Up.cell Y (F3.out.cell 1)
  have r4 : ∀ Y : In (Up Wa), _ := fun Y => Up.cell Y (F3.out.cell 4)
  simp at q1 q4 r1 r4
  refine wp_region_tail_at 26 (Up Wa) (by kernel_rfl) (by kernel_rfl) ((Below.refl _ _).drew) ?_
  simp only [List.take_succ_cons, List.take_zero]
  repeat (first
    | (refine wpQuiet_load_mid (by rfl) 105 (.tmp 3) rfl w.heap.size 0 rfl lk _ (Up.rng F1.out.rng F1.out.lt) Tryz.underlying105 rfl HLK.out.size ?_; simp only [Act.put, List.setIfInBounds_toArray, List.set_cons_zero, List.set_cons_succ])
    | (refine wpQuiet_load_mid (by rfl) 82 (.tmp 4) rfl (w.heap.size + 1) 0 rfl [.string y.se, .int .i64 y.nu, .int .i64 y.ve, .int .i64 y.im, .int .i64 y.st, .bool y.en, .string y.be] _ (Up.rng (F2.out.range rfl) F2.out.lt) Tryz.underlying82 rfl Tryz.sizeCopy ?_; simp only [Act.put, List.setIfInBounds_toArray, List.set_cons_zero, List.set_cons_succ])
    | (refine wpQuiet_load_mid (by rfl) 82 (.tmp 5) rfl (w.heap.size + 1 + 1) 0 rfl [.string z.se, .int .i64 z.nu, .int .i64 z.ve, .int .i64 z.im, .int .i64 z.st, .bool z.en, .string z.be] _ (Up.rng (F3.out.range rfl) F3.out.lt) Tryz.underlying82 rfl Tryz.sizeCopy ?_; simp only [Act.put, List.setIfInBounds_toArray, List.set_cons_zero, List.set_cons_succ])
    | (go_big_quiet_step (first
      | (go_at_call 130; rename_i Y; exact (compareYes_any _ _ _).mono fun _ _ h => ⟨h.1, Up.next Y h.2⟩)
      | (go_at_call 122; rename_i Y; exact (cmpInt_any _ _ _).mono fun _ _ h => ⟨h.1, Up.same Y h.2⟩)
      | (go_at_call_of 107 (Value.string y.se); rename_i Y; exact (isOld_any m _ _ _ B x n d lk y _ HLK.out).mono fun _ _ h => ⟨h.1, Up.next Y h.2⟩)
      | (go_at_call_of 107 (Value.string z.se); rename_i Y; exact (isOld_any m _ _ _ B x n d lk z _ HLK.out).mono fun _ _ h => ⟨h.1, Up.next Y h.2⟩)
      | (go_at_call_of 74 (Value.string y.se); rename_i Y; exact (onDrained_any lo m _ _ _ B x n d lk y _ HLK.out (HK.out.below (bt HB.out Y.h)) (HX.out.below (bt HB.out Y.h)) HY.out HU.out).mono fun _ _ h => ⟨h.1, Up.next Y h.2⟩)
      | (go_at_call_of 74 (Value.string z.se); rename_i Y; exact (onDrained_any lo m _ _ _ B x n d lk z _ HLK.out (HK.out.below (bt HB.out Y.h)) (HX.out.below (bt HB.out Y.h)) HZ.out HU.out).mono fun _ _ h => ⟨h.1, Up.next Y h.2⟩))))
  refine wpQuiet_nil ?_
  intro wn hw
  obtain ⟨Y, hY⟩ := hw
  have HWN : Hid (Below w.heap.size w wn) := by rw [hY]; exact bt HB.out Y.h
  clear hY Y q1 q4 r1 r4 xs xn
  refine wpAny_of_E (S := fun _ => True) (l := 1000) _ _ _ _ ?_
  refine wpAnyE_one (i := 26) (by kernel_rfl) rfl (fun K0 hK => ?_)
  go_simp
  refine hK.out _ _ (fun _ => trivial) (fun _ => ?_)
  clear hK K0
  refine wpAnyE_one (i := 27) (by kernel_rfl) rfl (fun K0 hK => ?_)
  go_simp
  refine (cmpOr_any _ _ _ _ [yesI (y.st != 3) (z.st != 3), yesI (y.im != x.im) (z.im != x.im), yesI (drB B y) (drB B z), cmpI z.nu y.nu] (by simp) ?_).mono ?_
  · intro i hi
    have hi' : i = 0 ∨ i = 1 ∨ i = 2 ∨ i = 3 := by simp at hi; omega
    rcases hi' with rfl | rfl | rfl | rfl <;> simp
  rintro e w2 ⟨rfl, rfl⟩
  refine hK.out _ _ (fun _ => trivial) (fun _ => ?_)
  clear hK K0
  try simp only [Act.put, List.getElem_toArray, List.getElem_cons_succ, List.getElem_cons_zero, List.setIfInBounds_toArray, List.set_cons_zero, List.set_cons_succ]
  refine wpAnyE_one (i := 28) (by kernel_rfl) rfl (fun K0 hK => ?_)
  go_simp
  refine hK.out _ _ (fun _ => trivial) (fun _ => ?_)
  clear hK K0
  refine wpAnyE_done (by kernel_rfl) ?_ _
  go_wp2
  go_ret
  exact ⟨ret_int HE.out, bt HWN.out (one_al _ _)⟩
end
end Go.Proofs.YtpdlcccnlciecaaGreat
namespace Go.Proofs.YtpdlcccnlciecaaGreat
open Go.RowKit Go.Deep

theorem ownsA_lt {base : Nat} {e : TypeId} {sz n : Nat} {W : World} {v : Value} {cs : List Value} (h : W.ownsRow base e sz v n cs) {g : Nat} (hg : v.ownBlock = some g) : g < W.heap.size ∧ base ≤ g ∧ ∀ i, W.frozen? ⟨g, i, none⟩ = false := by
  rcases h.2 with ⟨hv, _⟩ | ⟨g', cap, cur, hv, h1, h2, _⟩
  · rw [hv] at hg; cases hg
  · rw [hv] at hg
    have e : g' = g := by simpa [Value.ownBlock] using hg
    subst e
    refine ⟨?_, h1, fun i => by simp [World.frozen?, h2]⟩
    rcases Nat.lt_or_ge g' W.heap.size with h | h
    · exact h
    · rw [Array.getElem?_eq_none h] at h2; cases h2
theorem Touch.grownA {w w' : World} {g : Nat} (h : w.grownBy w' (some g)) : Touch g (g + 1) w w' := ⟨h.os, h.tape, h.output, h.size, fun k hk ho => h.block k hk fun e => by have := Option.some.inj e; omega⟩
theorem Below.grownA {w w' : World} (h : w.grownBy w' none) : Below w.heap.size w w' := ⟨h.os, h.tape, h.output, h.size, fun k hk => h.block k hk fun e => by cases e⟩
theorem Below.ownsA {base : Nat} {e : TypeId} {sz n : Nat} {W W' : World} {v : Value} {cs : List Value} (h : W.ownsRow base e sz v n cs) (hb : Below W.heap.size W W') : W'.ownsRow base e sz v n cs := by
  refine ⟨h.1, ?_⟩
  have hlt := fun g hg => ownsA_lt h (g := g) hg
  rcases h.2 with hv | ⟨g, cap, cur, hv, h1, h2, h3⟩
  · exact Or.inl hv
  · have hg := hlt g (by rw [hv]; rfl)
    exact Or.inr ⟨g, cap, cur, hv, h1, by rw [hb.block g hg.1]; exact h2, h3⟩
theorem Touch.ownsA {base lo hi : Nat} {e : TypeId} {sz n : Nat} {W W' : World} {v : Value} {cs : List Value} (h : W.ownsRow base e sz v n cs) (ht : Touch lo hi W W') (hh : hi ≤ base) : W'.ownsRow base e sz v n cs := by
  refine ⟨h.1, ?_⟩
  have hlt := fun g hg => ownsA_lt h (g := g) hg
  rcases h.2 with hv | ⟨g, cap, cur, hv, h1, h2, h3⟩
  · exact Or.inl hv
  · have hg := hlt g (by rw [hv]; rfl)
    exact Or.inr ⟨g, cap, cur, hv, h1, by rw [ht.block g hg.1 (by omega)]; exact h2, h3⟩
theorem ownsA_form {base : Nat} {e : TypeId} {sz n : Nat} {W : World} {v : Value} {cs : List Value} (h : W.ownsRow base e sz v n cs) : ∃ a cap, v = .slice a n cap := by
  rcases h.2 with ⟨hv, hn⟩ | ⟨g, cap, cur, hv, _⟩
  · rw [hn]; exact ⟨_, _, hv⟩
  · exact ⟨_, _, hv⟩
theorem ownsA_none {base : Nat} (W : World) (e : TypeId) (sz : Nat) : W.ownsRow base e sz (.slice none 0 0) 0 [] := ⟨by simp, Or.inl ⟨rfl, rfl⟩⟩
/-- the cells of parts with their inner lists -/
def Accs (x : Ac × Value) : List Value := [.string x.1.sv, .int .i64 x.1.sn, .int .i64 x.1.cr, .int .i64 x.1.wa, .int .i64 x.1.cl, .bool x.1.sc, x.2, .bool x.1.dp]
def Acgs : List (Ac × Value) → List Value
  | [] => []
  | x :: L => Accs x ++ Acgs L
theorem Acgs_len : ∀ L : List (Ac × Value), (Acgs L).length = L.length * 8
  | [] => rfl
  | x :: L => by simp only [Acgs, Accs, List.length_append, List.length_cons, List.length_nil, Acgs_len L]; omega
theorem Acgs_app : ∀ (A B : List (Ac × Value)), Acgs (A ++ B) = Acgs A ++ Acgs B
  | [], B => rfl
  | x :: A, B => by simp only [List.cons_append, Acgs, Acgs_app A B, List.append_assoc]
theorem Acgs_at : ∀ (L : List (Ac × Value)) (i : Nat) (h : i < L.length), (Acgs L)[i * 8]? = some (.string L[i].1.sv) ∧ (Acgs L)[i * 8 + 1]? = some (.int .i64 L[i].1.sn) ∧ (Acgs L)[i * 8 + 2]? = some (.int .i64 L[i].1.cr) ∧ (Acgs L)[i * 8 + 3]? = some (.int .i64 L[i].1.wa) ∧ (Acgs L)[i * 8 + 4]? = some (.int .i64 L[i].1.cl) ∧ (Acgs L)[i * 8 + 5]? = some (.bool L[i].1.sc) ∧ (Acgs L)[i * 8 + 6]? = some (L[i].2) ∧ (Acgs L)[i * 8 + 7]? = some (.bool L[i].1.dp)
  | [], i, h => by simp at h
  | x :: L, 0, _ => ⟨rfl, rfl, rfl, rfl, rfl, rfl, rfl, rfl⟩
  | x :: L, i + 1, h => by
    have := Acgs_at L i (by simpa using h)
    have e : ∀ j, (Acgs (x :: L))[(i + 1) * 8 + j]? = (Acgs L)[i * 8 + j]? := fun j => by
      rw [show (i + 1) * 8 + j = (i * 8 + j) + 1 + 1 + 1 + 1 + 1 + 1 + 1 + 1 by omega]
      rfl
    have e0 : (Acgs (x :: L))[(i + 1) * 8]? = (Acgs L)[i * 8]? := e 0
    simp only [List.getElem_cons_succ]
    exact ⟨e0.trans this.1, (e 1).trans this.2.1, (e 2).trans this.2.2.1, (e 3).trans this.2.2.2.1, (e 4).trans this.2.2.2.2.1, (e 5).trans this.2.2.2.2.2.1, (e 6).trans this.2.2.2.2.2.2.1, (e 7).trans this.2.2.2.2.2.2.2⟩
structure AcGrow (base : Nat) (W : World) (v : Value) (L : List (Ac × Value)) (c : Nat → Nat × Nat) : Prop where
  own : W.ownsRow base 47 8 v L.length (Acgs L)
  sz : ∀ i (h : i < L.length), AcSize L[i].1
  inn : ∀ i (h : i < L.length), (c i).1 ≤ (c i).2 ∧ EnsOwn (c i).1 (c i).2 W L[i].2 L[i].1.es
  seg : ∀ i, i < L.length → base ≤ (c i).1 ∧ (c i).2 ≤ W.heap.size ∧ ∀ g, v.ownBlock = some g → g < (c i).1 ∨ (c i).2 ≤ g
  mono : ∀ i j, i < j → j < L.length → (c i).2 ≤ (c j).1
theorem AcGrow.start (base : Nat) (W : World) : AcGrow base W (.slice none 0 0) [] (fun _ => (0, 0)) :=
  ⟨ownsA_none _ _ _, fun i h => by simp at h, fun i h => by simp at h, fun i h => by simp at h, fun i j _ h => by simp at h⟩
theorem AcGrow.below {base : Nat} {W W' : World} {v : Value} {L : List (Ac × Value)} {c : Nat → Nat × Nat} (h : AcGrow base W v L c) (hb : Below W.heap.size W W') : AcGrow base W' v L c :=
  ⟨Below.ownsA h.own hb, h.sz, fun i hi => by obtain ⟨q0, l0⟩ := h.inn i hi; exact ⟨q0, l0.below hb⟩, fun i hi => ⟨(h.seg i hi).1, Nat.le_trans (h.seg i hi).2.1 hb.size, (h.seg i hi).2.2⟩, h.mono⟩
theorem AcGrow.touch {base lo hi : Nat} {W W' : World} {v : Value} {L : List (Ac × Value)} {c : Nat → Nat × Nat} (h : AcGrow base W v L c) (ht : Touch lo hi W W') (hh : hi ≤ base) : AcGrow base W' v L c :=
  ⟨Touch.ownsA h.own ht hh, h.sz, fun i hi => by have hsg := h.seg i hi; obtain ⟨q0, l0⟩ := h.inn i hi; exact ⟨q0, l0.touch ht (by omega)⟩, fun i hi => ⟨(h.seg i hi).1, Nat.le_trans (h.seg i hi).2.1 ht.size, (h.seg i hi).2.2⟩, h.mono⟩
theorem AcGrow.snoc {base c0 c1 g cap : Nat} {W W1 W' : World} {v : Value} {L : List (Ac × Value)} {c : Nat → Nat × Nat} (h : AcGrow base W v L c) (hb1 : Below W.heap.size W W1) (x : Ac × Value) (hz : AcSize x.1) (hc0 : W.heap.size ≤ c0) (hc1 : c1 ≤ W1.heap.size) (hbase : base ≤ W.heap.size) (q0 : c0 ≤ c1) (e0 : EnsOwn c0 c1 W1 x.2 x.1.es)
    (hown : W'.ownsRow base 47 8 (.slice (some ⟨g, 0, none⟩) (L.length + 1) cap) (L.length + 1) (Acgs L ++ Accs x)) (hgrow : W1.grownBy W' v.ownBlock) (hat : v.ownBlock = some g ∨ g = W1.heap.size) :
    AcGrow base W' (.slice (some ⟨g, 0, none⟩) (L.length + 1) cap) (L ++ [x]) (fun i => if i < L.length then c i else (c0, c1)) := by
  have hsz := hgrow.size
  have hs1 := hb1.size
  have hlen : (L ++ [x]).length = L.length + 1 := by simp
  have hgx : Acgs (L ++ [x]) = Acgs L ++ Accs x := by rw [Acgs_app]; simp [Acgs]
  have hnew : ∀ lo hi, (∀ g', v.ownBlock = some g' → g' < lo ∨ hi ≤ g') → hi ≤ W1.heap.size → (Touch hi hi W1 W' ∨ ∃ g', Touch g' (g' + 1) W1 W' ∧ (g' < lo ∨ hi ≤ g')) := fun lo hi hv hhi => by
    cases hvo : v.ownBlock with
    | none => rw [hvo] at hgrow; exact Or.inl (Touch.below (Below.grownA hgrow))
    | some g' => rw [hvo] at hgrow; exact Or.inr ⟨g', Touch.grownA hgrow, hv g' hvo⟩
  have hlt := fun g' hg' => (ownsA_lt h.own (g := g') hg').1
  have hvb : ∀ g', v.ownBlock = some g' → g' < c0 ∨ c1 ≤ g' := fun g' hg' => Or.inl (by have := hlt g' hg'; omega)
  refine ⟨by rw [hlen, hgx]; exact hown, fun i hi => ?_, fun i hi => ?_, fun i hi => ?_, fun i j hij hj => ?_⟩
  · by_cases e : i < L.length
    · rw [List.getElem_append_left e]; exact h.sz i e
    · have e' : i = L.length := by omega
      subst e'
      simp only [List.getElem_append_right (Nat.le_refl _), Nat.sub_self, List.getElem_cons_zero]; exact hz
  · by_cases e : i < L.length
    · rw [List.getElem_append_left e, if_pos e]
      have hsg := h.seg i e
      obtain ⟨q0, l0⟩ := h.inn i e
      rcases hnew (c i).1 (c i).2 hsg.2.2 (by omega) with ht | ⟨g', ht, hg'⟩
      · exact ⟨q0, (l0.below hb1).touch ht (by omega)⟩
      · exact ⟨q0, (l0.below hb1).touch ht (by omega)⟩
    · have e' : i = L.length := by omega
      subst e'
      rw [if_neg e]
      simp only [List.getElem_append_right (Nat.le_refl _), Nat.sub_self, List.getElem_cons_zero]
      rcases hnew c0 c1 hvb hc1 with ht | ⟨g', ht, hg'⟩
      · exact ⟨q0, e0.touch ht (by omega)⟩
      · exact ⟨q0, e0.touch ht (by omega)⟩
  · have hgg : ∀ g', (Value.slice (some ⟨g, 0, none⟩) (L.length + 1) cap).ownBlock = some g' → g' = g := fun g' hg' => (Option.some.inj hg').symm
    by_cases e : i < L.length
    · rw [if_pos e]
      have hsg := h.seg i e
      refine ⟨hsg.1, by omega, fun g' hg' => ?_⟩
      rw [hgg g' hg']
      rcases hat with hat | hat
      · exact hsg.2.2 g hat
      · exact Or.inr (by omega)
    · rw [if_neg e]
      refine ⟨by simp only []; omega, by simp only []; omega, fun g' hg' => ?_⟩
      rw [hgg g' hg']
      rcases hat with hat | hat
      · exact hvb g hat
      · exact Or.inr (by simp only []; omega)
  · rw [hlen] at hj
    by_cases e : j < L.length
    · rw [if_pos e, if_pos (by omega)]; exact h.mono i j hij e
    · rw [if_neg e, if_pos (by omega)]
      have := (h.seg i (by omega)).2.1
      simp only []
      omega
theorem AcGrow.owns {base : Nat} {W : World} {v : Value} {L : List (Ac × Value)} {c : Nat → Nat × Nat} (h : AcGrow base W v L c) {Xl : List Ac} (hX : L.map Prod.fst = Xl) : AcsOwn base W.heap.size W v Xl := by
  subst hX
  by_cases hL : L = []
  · subst hL
    obtain ⟨a, cap, rfl⟩ := ownsA_form h.own
    exact Or.inl ⟨_, _, rfl, rfl⟩
  · rcases h.own.2 with ⟨_, hn⟩ | ⟨g, cap, cur, hv, h1, h2, h3, h4, _⟩
    · exact absurd (List.length_eq_zero_iff.1 hn) hL
    · have hl := ownsA_lt h.own (g := g) (by rw [hv]; rfl)
      have ho := h.own
      have hp : 0 < L.length := List.length_pos_iff.2 hL
      have hsg := h.seg
      subst hv
      refine Or.inr ⟨g, 0, cap, c, fun i => if h : i < L.length then L[i].1 else L[0].1, by rw [List.length_map], by simpa using hL, by rw [List.length_map]; exact Nat.le_trans h3 h4, by rw [List.length_map]; exact h3, fun i hi => ?_, hl.1, hl.2.1, hl.1, fun i hi => ?_, fun i j hij hj => ?_, fun i => hl.2.2 i, fun i hi => ?_⟩
      · have hi' : i < L.length := by simpa using hi
        simp [hi']
      · have hi' : i < L.length := by simpa using hi
        exact ⟨(hsg i hi').1, (hsg i hi').2.1, (hsg i hi').2.2 g rfl⟩
      · exact h.mono i j hij (by simpa using hj)
      · have hi' : i < L.length := by simpa using hi
        obtain ⟨d0, d1, d2, d3, d4, d5, d6, d7⟩ := Acgs_at L i hi'
        obtain ⟨q0, l0⟩ := h.inn i hi'
        have ce : ∀ j, j < 8 → W.cell? ⟨g, 0 + i * 8 + j, none⟩ = (Acgs L)[i * 8 + j]? := fun j hj => by rw [Nat.zero_add]; exact ho.cellAt _ (by omega)
        simp only [hi', dif_pos]
        exact ⟨h.sz i hi', _, q0, ⟨(ce 0 (by omega)).trans d0, (ce 1 (by omega)).trans d1, (ce 2 (by omega)).trans d2, (ce 3 (by omega)).trans d3, (ce 4 (by omega)).trans d4, (ce 5 (by omega)).trans d5, (ce 6 (by omega)).trans d6, (ce 7 (by omega)).trans d7⟩, l0⟩
end Go.Proofs.YtpdlcccnlciecaaGreat
