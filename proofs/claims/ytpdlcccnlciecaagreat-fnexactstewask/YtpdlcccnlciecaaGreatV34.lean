import Derived.Test.YtpdlcccnlciecaaGreatV33
import Derived.RangeFuncWrites
namespace Go.Proofs.YtpdlcccnlciecaaGreat
open Go.RowKit

/-- A LIST OF ALL, ONE BY ONE: the contract of an iterator that may itself go over another one. What the loop keeps (J) must bear the turn of any block that is no cells and was laid since the iterator was called: the record of a loop inside it is such a block. In return each round leaves all such blocks as they lay. The iterator is called where the heap ends at zs, and calls a round only where zb blocks more have been laid. -/
def Passes {α : Type} (n : Nat) (P : Program) (g : Nat) (lb : Array Value) (encs : α → Array Value) (Kp : World → World → Prop) (S : List α → Prop) (N : Nat) (w : World) (zs zb : Nat) : Prop :=
  ∀ (l : Nat) (J : List α → World → Prop) (W : World), Below w.heap.size w W → W.heap.size = zs → OwnFrom W.heap.size J →
    (∀ pre x W1, J pre W1 → pre.length < N → zs + zb ≤ W1.heap.size → YieldAt Fence.wide (n - 1) P l (encs x) W1 fun e W' => e = .returned (.bool true) ∧ J (pre ++ [x]) W' ∧ Kp W1 W' ∧ KeepsFrom W.heap.size W1 W') →
    J [] W → CallsIn Fence.wide n P g (#[.func (.yield l) #[] #[]] ++ lb) W fun e W' => (∃ v, e = .returned v) ∧ ∃ xs, S xs ∧ J xs W'

/-- the state of a loop's record -/
def recL (fn : FuncId) (a : Act) (ps : Array Tmp) (assign body : Code) (d : Nat) (st : LoopState) : Loop := { state := st, pending := none, fn, tmps := a.tmps, params := ps, assign, body, defers := d }
/-- a loop whose body always goes on, over such an iterator -/
theorem range_pass {α : Type} {n : Nat} {P : Program} {g : Operand} {ps : Array Tmp} {assign body : Code} {Q : Exit → Act → World → Prop} {a : Act} {w : World} (h1 : 1 ≤ n)
    {gf : Nat} {lb : Array Value} (hg : a.eval g = .func (.func gf) #[] lb) (eg : ∀ args w, (callFunc gf args).run P w = .ok (.enter gf args) w)
    {encs : α → Array Value} {Kp : World → World → Prop} {S : List α → Prop} {N zb : Nat} {w0 : World} (hseq : Passes (n - 1) P gf lb encs Kp S N w0 (w.heap.size + 2) zb)
    (hKt : ∀ {A B C : World}, Kp A B → Kp B C → Kp A C) (hKb : ∀ (W : World) (l : Nat) (o o' : Obj), w.heap.size ≤ l → W.heap[l]? = some o → o.isCells = false → o.isWalk = false → Kp W (W.putObj l o'))
    (hb0 : Below w0.heap.size w0 w) (hps : ∀ x, (encs x).size = ps.size)
    (I : List α → World → Prop) (hI : OwnFrom w.heap.size I) (h0 : I [] w)
    (Ax : α → Act → World → Prop) (hAx : ∀ x a', OwnFrom w.heap.size (fun (_ : Unit) W => Ax x a' W))
    (hassign : ∀ (l : Nat) (pre : List α) (x : α) (W : World), I pre W →
      assign.wpIn (Fence.wide.inRound l) (n - 1 - 1) P (Exit.then (fun a' W' => KeepsFrom w.heap.size W W' ∧ Kp W W' ∧ I pre W' ∧ Ax x a' W') (fun _ _ _ => False)) { tmps := (ps.zip (encs x)).foldl (fun t (p, v) => t.setIfInBounds p v) a.tmps, defers := [] } W)
    (hbody : ∀ (l : Nat) (pre : List α) (x : α) (a' : Act) (W : World), w.heap.size ≤ l → (∃ r, W.heap[l]? = some (.loop r)) → I pre W → Ax x a' W → pre.length < N → w.heap.size + 2 + zb ≤ W.heap.size →
      body.wpIn (Fence.wide.inRound l) (n - 1 - 1) P (Exit.then (fun _ W' => KeepsFrom w.heap.size W W' ∧ Kp W W' ∧ I (pre ++ [x]) W') (fun _ _ _ => False)) a' W)
    (hdone : ∀ (D : Nat) (xs : List α) (W : World), w.heap.size ≤ D → S xs → I xs W → W.heap[D]? = some (.deferred (some [])) → Q .normal { a with defers := { target := .collected D, args := #[] } :: a.defers } W) :
    (Code.rangeFunc g ps assign body).wpIn Fence.wide n P Q a w := by
  refine wpIn_rangeFunc fun fn hfn => ?_
  have hlay := run_enterLoop_outer (P := P) (w := w) fn a.tmps ps assign body
  generalize hr : recL fn a ps assign body w.heap.size = R at *
  have hR : ∀ st, R st = recL fn a ps assign body w.heap.size st := fun st => by rw [← hr]
  obtain ⟨V, hV⟩ : ∃ V, (w.alloc (.deferred (some []))).alloc (.loop (R .ready)) = V := ⟨_, rfl⟩
  have vL : V.heap[w.heap.size + 1]? = some (.loop (R .ready)) := by
    rw [← hV]
    simpa using World.alloc_heap_new (w.alloc (.deferred (some []))) (.loop (R .ready))
  have vD : V.heap[w.heap.size]? = some (.deferred (some [])) := by
    rw [← hV]
    exact (Below.heap_alloc _ _ _ (by simp)).trans (World.alloc_heap_new w _)
  have vI : I [] V := by rw [← hV]; exact hI.alloc _ (hI.alloc _ h0)
  have vz : V.heap.size = w.heap.size + 2 := by rw [← hV]; simp
  have vB : Below w0.heap.size w0 V := by
    rw [← hV]
    exact hb0.trans ((((Below.refl _ w).alloc (Nat.le_refl _) _).alloc (by simp) _).mono hb0.size)
  refine ⟨w.heap.size + 1, [{ target := .collected w.heap.size, args := #[] }], V, { target := .fn (.func gf) lb, args := #[.func (.yield (w.heap.size + 1)) #[] #[]] }, V, gf, #[.func (.yield (w.heap.size + 1)) #[] #[]] ++ lb, V,
    ?_, by simp only [resolve, hg]; simp [go_sem], fun f' _ => trivial, by simp [invoke, go_sem, eg], fun _ => h1, ?_⟩
  · rw [← hV, hR]
    exact hlay
  have stay : ∀ (A B : World) (row : Option Nat) (k : Nat) (o : Obj), k < w.heap.size + 2 → A.grownBy B row → (∀ r, row = some r → V.heap.size ≤ r ∧ ∃ o : Obj, A.heap[r]? = some o ∧ o.isCells = false) → A.heap[k]? = some o → B.heap[k]? = some o :=
    fun A B row k o hk hgr hrow h => (hgr.block k (Array.getElem?_eq_some_iff.1 h).1 (fun e => by have := (hrow k e.symm).1; omega)).trans h
  refine (hseq (w.heap.size + 1) (fun pre W => I pre W ∧ W.heap[w.heap.size + 1]? = some (.loop (R .ready)) ∧ W.heap[w.heap.size]? = some (.deferred (some []))) V vB vz
    (fun s A B row hs hgr hrow => ⟨hI s A B row hs.1 hgr (fun r e => ⟨by have := (hrow r e).1; omega, (hrow r e).2⟩), stay A B row _ _ (by omega) hgr hrow hs.2.1, stay A B row _ _ (by omega) hgr hrow hs.2.2⟩) ?_ ⟨vI, vL, vD⟩).mono ?_
  · rintro pre x W ⟨wI, wL, wD⟩ hlen hzb
    have hy := run_yield (P := P) (args := encs x) wL (by rw [hR]; exact hps x)
    rw [hR] at hy
    refine ⟨fn, _, assign, body, hy, roundIn_of_wpIn hfn (wpIn_mono (hassign _ pre x W wI) ?_)⟩
    clear hy
    rintro (_ | _ | _ | _ | _ | _) a1 A hp <;> try exact hp.elim
    obtain ⟨ak, aK, aI, aX⟩ := hp
    have aL := ak.same _ _ (by omega) wL rfl
    have aD := ak.same _ _ (Nat.le_refl _) wD rfl
    have alt : w.heap.size + 1 < A.heap.size := (Array.getElem?_eq_some_iff.1 aL).1
    obtain ⟨C, hC⟩ : ∃ C, A.putObj (w.heap.size + 1) (.loop (R .busy)) = C := ⟨_, rfl⟩
    have hbr := run_beginRound (P := P) aL (by rw [hR]; rfl)
    have cL : C.heap[w.heap.size + 1]? = some (.loop (R .busy)) := by rw [← hC]; exact World.putObj_heap_same alt
    have cD : C.heap[w.heap.size]? = some (.deferred (some [])) := by rw [← hC]; exact (World.putObj_heap_other (by omega)).trans aD
    have cK : Kp A C := by rw [← hC]; exact hKb _ _ _ _ (by omega) aL rfl rfl
    have cI : I pre C := by rw [← hC]; exact hI.putObj _ aI (by omega) aL rfl
    have cX : Ax x a1 C := by rw [← hC]; exact (hAx x a1).putObj (s := ()) _ aX (by omega) aL rfl
    refine ⟨C, ?_, wpIn_mono (hbody _ pre x a1 C (by omega) ⟨_, cL⟩ cI cX hlen (by have := ak.size; rw [← hC]; simp [World.putObj]; omega)) ?_⟩
    · rw [← hC, hR]
      rw [hR] at hbr
      exact hbr
    rintro (_ | _ | _ | _ | _ | _) a2 E hp <;> try exact hp.elim
    obtain ⟨ek, eK, eI⟩ := hp
    have eL := ek.same _ _ (by omega) cL rfl
    have eD := ek.same _ _ (Nat.le_refl _) cD rfl
    have elt : w.heap.size + 1 < E.heap.size := (Array.getElem?_eq_some_iff.1 eL).1
    have her := run_endRound (P := P) none eL
    refine ⟨_, _, her, rfl, ⟨hI.putObj _ eI (by omega) eL rfl, ?_, (World.putObj_heap_other (by omega)).trans eD⟩, hKt aK (hKt cK (hKt eK (hKb _ _ _ _ (by omega) eL rfl rfl))), ?_⟩
    · rw [World.putObj_heap_same elt, hR, hR]
      rfl
    · refine ⟨?_, fun k o hk ho hc => ?_⟩
      · have := ak.size
        have := ek.size
        rw [← hC] at this
        simp [World.putObj] at *
        omega
      · have hne : k ≠ w.heap.size + 1 := by omega
        have k1 := ak.same k o (by omega) ho hc
        have k2 : C.heap[k]? = some o := by rw [← hC]; exact (World.putObj_heap_other (by omega)).trans k1
        exact (World.putObj_heap_other (by omega)).trans (ek.same k o (by omega) k2 hc)
  · rintro e W ⟨⟨v, rfl⟩, xs, hS, wI, wL, wD⟩
    have hel := run_endLoop (P := P) wL (by rw [hR]; simp [recL])
    rw [hR] at hel
    exact ⟨none, _, hel, hdone _ xs _ (Nat.le_refl _) hS (hI.putObj _ wI (by omega) wL rfl) ((World.putObj_heap_other (by omega)).trans wD)⟩
end Go.Proofs.YtpdlcccnlciecaaGreat
namespace Go.Proofs.YtpdlcccnlciecaaGreat
open Go.RowKit Go.Deep Go.Shelf

attribute [local go_sem] Oper.semAt_some

/-- another one that is ready -/
def besQ (x y : Cp) : Bool := (y.nu != x.nu) && (!y.en) && (y.st == 3)
/-- the world while others are counted -/
structure BesW (w : World) (x : Cp) (pre : List Cp) (W : World) : Prop where
  one : Box W (w.heap.size + 1) #[.string x.se, .int .i64 x.nu, .int .i64 x.ve, .int .i64 x.im, .int .i64 x.st, .bool x.en, .string x.be]
  cnt : Box W (w.heap.size + 1 + 1) #[.int .i64 (ct (besQ x) pre)]
  below : Below w.heap.size w W
  big : w.heap.size + 5 ≤ W.heap.size
theorem BesW.grow {w : World} {x : Cp} {pre : List Cp} {W W' : World} {row : Option Nat} (h : BesW w x pre W) (hg : W.grownBy W' row) (hr : ∀ r, row = some r → w.heap.size + 5 ≤ r) : BesW w x pre W' :=
  ⟨h.one.ofBlk (hg.block _ h.one.lt (fun e => by have := hr _ e.symm; omega)), h.cnt.ofBlk (hg.block _ h.cnt.lt (fun e => by have := hr _ e.symm; omega)),
    h.below.trans ⟨hg.os, hg.tape, hg.output, hg.size, fun k hk => hg.block k (by have := h.below.size; omega) (fun e => by have := hr _ e.symm; omega)⟩, Nat.le_trans h.big hg.size⟩

section
variable (lo : Nat) (now : Int) (sv cv bv : Value) (L : List Cp) (x : Cp) (w : World)

set_option maxRecDepth 100000 in
set_option maxHeartbeats 8000000 in
theorem beside_any (hL : CpsAt lo w cv L) (n1 : L.length ≤ 1048576) (hr : risR aheadB L = true) (hnu : ∀ i (h : i < L.length), 1 ≤ L[i].nu) (h0 : ∃ a n k, sv = .slice a n k) (h2 : ∃ a n k, bv = .slice a n k) :
    Calls Tryz.prog 140 #[.agg #[.int .i64 now, sv, cv, bv], .agg #[.string x.se, .int .i64 x.nu, .int .i64 x.ve, .int .i64 x.im, .int .i64 x.st, .bool x.en, .string x.be]] w
      fun e w' => ∃ c : Int, e = .returned (.int .i64 c) ∧ Hid (c = ct (besQ x) (L.filter (mineB x.se))) ∧ Below w.heap.size w w' := by
  have HL := hide hL
  have HR := hide hr
  have HNU := hide hnu
  obtain ⟨a1, k1, rfl⟩ := hL.form
  obtain ⟨a0, n0, k0, rfl⟩ := h0
  obtain ⟨a2, n2, k2, rfl⟩ := h2
  clear hL hr hnu
  refine (callsIn_wide (n := 5)).1 ?_
  refine callsIn_of_wp_marks Tryz.func140 rfl trivial ?_ rfl
  simp only [Tryz.ntmps140, List.size_toArray, List.length_cons, List.length_nil, Nat.reduceAdd, Nat.reduceSub, Array.replicate_succ, Array.replicate_zero, List.push_toArray, List.append_toArray, List.nil_append, List.cons_append]
  gi_wp2_with fail
  refine ⟨trivial, (copiesOf_in now x.se _ Fence.wide _ trivial rfl a0 a1 a2 n0 L.length n2 k0 k1 k2).mono ?_⟩
  rintro e w1 ⟨rfl, hw1⟩
  obtain ⟨wl, hwl, HX1, HX2, HW, hsz⟩ : ∃ wl, wl = w1 ∧ Hid (Box wl (w.heap.size + 1 + 1 + 1) #[.int .i64 now, .slice a0 n0 k0, .slice a1 L.length k1, .slice a2 n2 k2]) ∧ Hid (Box wl (w.heap.size + 1 + 1 + 1 + 1) #[.string x.se]) ∧ Hid (BesW w x [] wl) ∧ wl.heap.size = w.heap.size + 5 := by
    subst hw1
    refine ⟨_, rfl, (Box.new _ _ _ _ (by simp)).on (one_al _ _), Box.new _ _ _ _ (by simp), ⟨?_, ?_, ?_, by simp⟩, by simp⟩
    · exact (((Box.new _ _ _ _ (by simp)).on (one_al _ _)).on (one_al _ _)).on (one_al _ _)
    · exact ((Box.new _ _ _ _ (by simp)).on (one_al _ _)).on (one_al _ _)
    · exact ((((one_al _ _).trans ((one_al _ _).mono (by simp))).trans ((one_al _ _).mono (by simp; omega))).trans ((one_al _ _).mono (by simp; omega))).trans ((one_al _ _).mono (by simp; omega))
  subst hwl
  clear hw1
  gi_wp2_with fail
  refine wpIn_rangeFunc_ownH rfl (by decide) (gf := 126) (lb := #[.pointer (some ⟨w.heap.size + 1 + 1 + 1, 0, none⟩), .pointer (some ⟨w.heap.size + 1 + 1 + 1 + 1, 0, none⟩)]) rfl trivial (enters_of Tryz.func126 (by kernel_rfl) rfl)
    (copies_stops lo now _ _ _ L x.se wl _ (by decide) (fun k => k = w.heap.size + 1 + 1) w _ _ HW.out.below HL.out n1 HR.out HNU.out (fun k hk he => by omega) (by omega) HX1.out HX2.out ⟨_, _, _, rfl⟩ ⟨_, _, _, rfl⟩)
    KeepsBut.trans KeepsBut.put (Below.refl _ _) (fun _ => rfl)
    (fun pre W => BesW w x pre W)
    (fun _ _ _ => False)
    (fun s A B row hs hg hr => hs.grow hg (fun r e => by have := (hr r e).1; omega))
    (fun _ _ _ _ _ hs _ _ => hs)
    HW.out
    (fun y a' W => ∃ β : Nat, w.heap.size + 5 ≤ β ∧ a' = { tmps := #[.agg #[.int .i64 now, .slice a0 n0 k0, .slice a1 L.length k1, .slice a2 n2 k2], .agg #[.string x.se, .int .i64 x.nu, .int .i64 x.ve, .int .i64 x.im, .int .i64 x.st, .bool x.en, .string x.be], .pointer (some ⟨w.heap.size, 0, none⟩), .pointer (some ⟨w.heap.size + 1, 0, none⟩), .int .i64 0, .pointer (some ⟨w.heap.size + 1 + 1, 0, none⟩), .pointer (some ⟨β, 0, none⟩), .agg #[.int .i64 now, .slice a0 n0 k0, .slice a1 L.length k1, .slice a2 n2 k2], .pointer (some ⟨w.heap.size + 1, 0, none⟩), .string x.se, .func (.func 126) #[] #[.pointer (some ⟨w.heap.size + 1 + 1 + 1, 0, none⟩), .pointer (some ⟨w.heap.size + 1 + 1 + 1 + 1, 0, none⟩)], .agg #[.string y.se, .int .i64 y.nu, .int .i64 y.ve, .int .i64 y.im, .int .i64 y.st, .bool y.en, .string y.be], undef, undef, undef, undef, undef, undef, undef, undef, undef, undef, undef, undef, undef, undef, undef, undef, undef, undef], defers := [] } ∧ Box W β #[.string y.se, .int .i64 y.nu, .int .i64 y.ve, .int .i64 y.im, .int .i64 y.st, .bool y.en, .string y.be])
    (fun y a' s A B row hs hg hr => by
      obtain ⟨β, hβ, e1, e2⟩ := hs
      exact ⟨β, hβ, e1, e2.ofBlk (hg.block _ e2.lt (fun e => by
        obtain ⟨-, o, ho, hc⟩ := hr _ e.symm
        obtain ⟨o', ho', hc'⟩ := cells_of_cell (e2.cell 0)
        rw [ho] at ho'
        cases ho'
        rw [hc] at hc'
        cases hc'))⟩) ?assign ?body ?done ?stop
  case assign =>
    intro l pre y W K hI hK
    have HI := hide hI
    have HK := hide hK
    have hz := hI.below.size
    have hz6 := hI.big
    clear hI hK
    gi_wp2
    refine HK.out _ _ ((KeepsOthers.alloc _ _).from _) (KeepsBut.grow (World.grownBy_alloc _ _ none)) (HI.out.grow (World.grownBy_alloc _ _ none) (fun r e => by cases e)) ⟨W.heap.size, hz6, rfl, Box.new _ _ _ _ rfl⟩
  case body =>
    rintro l pre y a' W hll hrec hI ⟨β, hβ, rfl, hY⟩ hlen
    have HI := hide hI
    have y1 := hY.cell 1
    have y4 := hY.cell 4
    have y5 := hY.cell 5
    have x1 := hI.one.cell 1
    simp at y1 y4 y5 x1
    obtain ⟨z, ez⟩ : ∃ z, z = ct (besQ x) pre := ⟨_, rfl⟩
    have HCB : Hid (Box W (w.heap.size + 1 + 1) #[.int .i64 z]) := by
      unfold Hid
      rw [ez]
      exact hI.cnt
    have b0 : 0 ≤ z ∧ z ≤ 1048576 := by have := ct_bd (besQ x) pre; omega
    have v0 : IntKind.i64.wrap (z + 1) = z + 1 := by rw [IntWalk.i64_left]; unfold wrap64; omega
    have HCN : Hid (ct (besQ x) (pre ++ [y]) = z + if besQ x y then 1 else 0) := by
      unfold Hid
      rw [ct_snoc, ez]
    have m0 := HCB.out.cell 0
    have f0 := HCB.out.free
    simp at m0
    clear ez b0
    have HS : Hid (∀ W', Box W' (w.heap.size + 1 + 1) #[.int .i64 (ct (besQ x) (pre ++ [y]))] → Below w.heap.size w W' → w.heap.size + 5 ≤ W'.heap.size → (∀ b, b ≠ w.heap.size + 1 + 1 → W'.heap[b]? = W.heap[b]?) → BesW w x (pre ++ [y]) W') := fun W' h1 h2 hbg h3 =>
      ⟨HI.out.one.ofBlk (h3 _ (by omega)), h1, h2, hbg⟩
    clear hI hY hrec hlen
    cases q1 : (y.nu != x.nu) with
    | false =>
      have HE : Hid (ct (besQ x) (pre ++ [y]) = z) := by
        unfold Hid
        rw [HCN.out]
        simp [besQ, q1]
      gi_wp2
      have hst : Sets (w.heap.size + 1 + 1) W W := Sets.refl _ _
      exact ⟨hst.ko.from _, hst.kb _ _ rfl, HS.out W (by rw [HE.out]; exact HCB.out) HI.out.below HI.out.big (fun _ _ => rfl)⟩
    | true =>
      cases q5 : y.en with
      | true =>
        have HE : Hid (ct (besQ x) (pre ++ [y]) = z) := by
          unfold Hid
          rw [HCN.out]
          simp [besQ, q1, q5]
        gi_wp2
        have hst : Sets (w.heap.size + 1 + 1) W W := Sets.refl _ _
        exact ⟨hst.ko.from _, hst.kb _ _ rfl, HS.out W (by rw [HE.out]; exact HCB.out) HI.out.below HI.out.big (fun _ _ => rfl)⟩
      | false =>
        cases q4 : (y.st == 3) with
        | false =>
          have HE : Hid (ct (besQ x) (pre ++ [y]) = z) := by
            unfold Hid
            rw [HCN.out]
            simp [besQ, q1, q5, q4]
          gi_wp2
          have hst : Sets (w.heap.size + 1 + 1) W W := Sets.refl _ _
          exact ⟨hst.ko.from _, hst.kb _ _ rfl, HS.out W (by rw [HE.out]; exact HCB.out) HI.out.below HI.out.big (fun _ _ => rfl)⟩
        | true =>
          have HE : Hid (ct (besQ x) (pre ++ [y]) = z + 1) := by
            unfold Hid
            rw [HCN.out]
            simp [besQ, q1, q5, q4]
          gi_wp2
          have hst : Sets (w.heap.size + 1 + 1) W (W.setCell ⟨w.heap.size + 1 + 1, 0, none⟩ (.int .i64 (z + 1))) := (Sets.refl _ _).set _ _
          have hbx : Box (W.setCell ⟨w.heap.size + 1 + 1, 0, none⟩ (.int .i64 (z + 1))) (w.heap.size + 1 + 1) #[.int .i64 (z + 1)] := (HCB.out.set (k := 0) (.int .i64 (z + 1)) (by simp))
          generalize (W.setCell ⟨w.heap.size + 1 + 1, 0, none⟩ (.int .i64 (z + 1))) = W' at *
          exact ⟨hst.ko.from _, hst.kb _ _ rfl, HS.out W' (by rw [HE.out]; exact hbx) (HI.out.below.trans (hst.bl _ (by omega))) (by have := HI.out.big; have := hst.sz; omega) hst.oth⟩
  case done =>
    rintro Dd ys W hD rfl hI hK
    have HI := hide hI
    have m0 := hI.cnt.cell
    clear hI
    gi_wp2
    have hK2 : W.heap[Dd]? = some (.deferred (some [])) := hK
    have hDd : w.heap.size + 5 ≤ Dd := by omega
    refine ⟨by simp, .inl ⟨_, _, rfl, run_takeDeferred hK2, ?_⟩⟩
    refine ⟨.int .i64 (ct (besQ x) (L.filter (mineB x.se))), by simp [results, Tryz.results140, go_sem], _, rfl, rfl, HI.out.below.trans (belowK_b (w := w) (Nat.le_refl _) W Dd _ _ (by omega) hK2 rfl rfl)⟩
  case stop =>
    rintro Dd c pre W hD hSp hF
    exact hF.elim
end
end Go.Proofs.YtpdlcccnlciecaaGreat
