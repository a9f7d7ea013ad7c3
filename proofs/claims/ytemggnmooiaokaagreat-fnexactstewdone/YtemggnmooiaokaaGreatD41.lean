import Derived.Test.YtemggnmooiaokaaGreatD23
import Derived.Test.YtemggnmooiaokaaGreatD40
import Derived.RangeFuncWrites
namespace Go.Proofs.YtemggnmooiaokaaGreat
open Go.RowKit

/-- A LIST OF ALL, ONE BY ONE: the contract of an iterator that may itself go over another one. What the loop keeps (J) must bear the turn of any block that is no cells and was laid since the iterator was called: the record of a loop inside it is such a block. In return each round leaves all such blocks as they lay. The iterator is called where the heap ends at zs, and calls a round only where zb blocks more have been laid. -/
def Passes {α : Type} (n : Nat) (P : Program) (g : Nat) (lb : Array Value) (encs : α → Array Value) (Kp : World → World → Prop) (S : List α → Prop) (N : Nat) (w : World) (zs zb : Nat) : Prop :=
  ∀ (l : Nat) (J : List α → World → Prop) (W : World), Below w.heap.size w W → W.heap.size = zs → OwnFrom W.heap.size J →
    (∀ pre x W1, J pre W1 → pre.length < N → zs + zb ≤ W1.heap.size → YieldAt Fence.wide (n - 1) P l (encs x) W1 fun e W' => e = .returned (.bool true) ∧ J (pre ++ [x]) W' ∧ Kp W1 W' ∧ KeepsFrom W.heap.size W1 W') →
    J [] W → CallsIn Fence.wide n P g (#[.func (.yield l) #[] #[]] ++ lb) W fun e W' => (∃ v, e = .returned v) ∧ ∃ xs, S xs ∧ J xs W'

/-- the state of a loop's record -/
def recL (fn : FuncId) (a : Act) (ps : Array Tmp) (assign body : Code) (d : Nat) (st : LoopState) : Loop := { state := st, pending := none, fn, tmps := a.tmps, params := ps, assign, body, defers := d }
/-- a loop whose body always goes on, over such an iterator -/
theorem range_pass {α : Type} {n : Nat} {P : Program} {g : Operand} {ps : Array Tmp} {assign body : Code} {Q : Exit → Act → World → Prop} {a : Act} {w : World} (h1 : 1 ≤ n)
    {gf : Nat} {lb : Array Value} (hg : a.eval g = .func (.func gf) #[] lb) (eg : ∀ args w, (callFunc gf args).run P w = .ok (.enter gf args) w)
    {encs : α → Array Value} {Kp : World → World → Prop} {S : List α → Prop} {N zb : Nat} {w0 : World} (hseq : Passes (n - 1) P gf lb encs Kp S N w0 (w.heap.size + 2) zb)
    (hKt : ∀ {A B C : World}, Kp A B → Kp B C → Kp A C) (hKb : ∀ (W : World) (l : Nat) (o o' : Obj), w.heap.size ≤ l → W.heap[l]? = some o → o.isCells = false → o.isWalk = false → Kp W (W.putObj l o'))
    (hb0 : Below w0.heap.size w0 w) (hps : ∀ x, (encs x).size = ps.size)
    (I : List α → World → Prop) (hI : OwnFrom w.heap.size I) (h0 : I [] w)
    (Ax : α → Act → World → Prop) (hAx : ∀ x a', OwnFrom w.heap.size (fun (_ : Unit) W => Ax x a' W))
    (hassign : ∀ (l : Nat) (pre : List α) (x : α) (W : World), I pre W →
      assign.wpIn (Fence.wide.inRound l) (n - 1 - 1) P (Exit.then (fun a' W' => KeepsFrom w.heap.size W W' ∧ Kp W W' ∧ I pre W' ∧ Ax x a' W') (fun _ _ _ => False)) { tmps := (ps.zip (encs x)).foldl (fun t (p, v) => t.setIfInBounds p v) a.tmps, defers := [] } W)
    (hbody : ∀ (l : Nat) (pre : List α) (x : α) (a' : Act) (W : World), w.heap.size ≤ l → (∃ r, W.heap[l]? = some (.loop r)) → I pre W → Ax x a' W → pre.length < N → w.heap.size + 2 + zb ≤ W.heap.size →
      body.wpIn (Fence.wide.inRound l) (n - 1 - 1) P (Exit.then (fun _ W' => KeepsFrom w.heap.size W W' ∧ Kp W W' ∧ I (pre ++ [x]) W') (fun _ _ _ => False)) a' W)
    (hdone : ∀ (D : Nat) (xs : List α) (W : World), w.heap.size ≤ D → S xs → I xs W → W.heap[D]? = some (.deferred (some [])) → Q .normal { a with defers := { target := .collected D, args := #[] } :: a.defers } W) :
    (Code.rangeFunc g ps assign body).wpIn Fence.wide n P Q a w := by
  refine wpIn_rangeFunc fun fn hfn => ?_
  have hlay := run_enterLoop_outer (P := P) (w := w) fn a.tmps ps assign body
  generalize hr : recL fn a ps assign body w.heap.size = R at *
  have hR : ∀ st, R st = recL fn a ps assign body w.heap.size st := fun st => by rw [← hr]
  obtain ⟨V, hV⟩ : ∃ V, (w.alloc (.deferred (some []))).alloc (.loop (R .ready)) = V := ⟨_, rfl⟩
  have vL : V.heap[w.heap.size + 1]? = some (.loop (R .ready)) := by
    rw [← hV]
    simpa using World.alloc_heap_new (w.alloc (.deferred (some []))) (.loop (R .ready))
  have vD : V.heap[w.heap.size]? = some (.deferred (some [])) := by
    rw [← hV]
    exact (Below.heap_alloc _ _ _ (by simp)).trans (World.alloc_heap_new w _)
  have vI : I [] V := by rw [← hV]; exact hI.alloc _ (hI.alloc _ h0)
  have vz : V.heap.size = w.heap.size + 2 := by rw [← hV]; simp
  have vB : Below w0.heap.size w0 V := by
    rw [← hV]
    exact hb0.trans ((((Below.refl _ w).alloc (Nat.le_refl _) _).alloc (by simp) _).mono hb0.size)
  refine ⟨w.heap.size + 1, [{ target := .collected w.heap.size, args := #[] }], V, { target := .fn (.func gf) lb, args := #[.func (.yield (w.heap.size + 1)) #[] #[]] }, V, gf, #[.func (.yield (w.heap.size + 1)) #[] #[]] ++ lb, V,
    ?_, by simp only [resolve, hg]; simp [go_sem], fun f' _ => trivial, by simp [invoke, go_sem, eg], fun _ => h1, ?_⟩
  · rw [← hV, hR]
    exact hlay
  have stay : ∀ (A B : World) (row : Option Nat) (k : Nat) (o : Obj), k < w.heap.size + 2 → A.grownBy B row → (∀ r, row = some r → V.heap.size ≤ r ∧ ∃ o : Obj, A.heap[r]? = some o ∧ o.isCells = false) → A.heap[k]? = some o → B.heap[k]? = some o :=
    fun A B row k o hk hgr hrow h => (hgr.block k (Array.getElem?_eq_some_iff.1 h).1 (fun e => by have := (hrow k e.symm).1; omega)).trans h
  refine (hseq (w.heap.size + 1) (fun pre W => I pre W ∧ W.heap[w.heap.size + 1]? = some (.loop (R .ready)) ∧ W.heap[w.heap.size]? = some (.deferred (some []))) V vB vz
    (fun s A B row hs hgr hrow => ⟨hI s A B row hs.1 hgr (fun r e => ⟨by have := (hrow r e).1; omega, (hrow r e).2⟩), stay A B row _ _ (by omega) hgr hrow hs.2.1, stay A B row _ _ (by omega) hgr hrow hs.2.2⟩) ?_ ⟨vI, vL, vD⟩).mono ?_
  · rintro pre x W ⟨wI, wL, wD⟩ hlen hzb
    have hy := run_yield (P := P) (args := encs x) wL (by rw [hR]; exact hps x)
    rw [hR] at hy
    refine ⟨fn, _, assign, body, hy, roundIn_of_wpIn hfn (wpIn_mono (hassign _ pre x W wI) ?_)⟩
    clear hy
    rintro (_ | _ | _ | _ | _ | _) a1 A hp <;> try exact hp.elim
    obtain ⟨ak, aK, aI, aX⟩ := hp
    have aL := ak.same _ _ (by omega) wL rfl
    have aD := ak.same _ _ (Nat.le_refl _) wD rfl
    have alt : w.heap.size + 1 < A.heap.size := (Array.getElem?_eq_some_iff.1 aL).1
    obtain ⟨C, hC⟩ : ∃ C, A.putObj (w.heap.size + 1) (.loop (R .busy)) = C := ⟨_, rfl⟩
    have hbr := run_beginRound (P := P) aL (by rw [hR]; rfl)
    have cL : C.heap[w.heap.size + 1]? = some (.loop (R .busy)) := by rw [← hC]; exact World.putObj_heap_same alt
    have cD : C.heap[w.heap.size]? = some (.deferred (some [])) := by rw [← hC]; exact (World.putObj_heap_other (by omega)).trans aD
    have cK : Kp A C := by rw [← hC]; exact hKb _ _ _ _ (by omega) aL rfl rfl
    have cI : I pre C := by rw [← hC]; exact hI.putObj _ aI (by omega) aL rfl
    have cX : Ax x a1 C := by rw [← hC]; exact (hAx x a1).putObj (s := ()) _ aX (by omega) aL rfl
    refine ⟨C, ?_, wpIn_mono (hbody _ pre x a1 C (by omega) ⟨_, cL⟩ cI cX hlen (by have := ak.size; rw [← hC]; simp [World.putObj]; omega)) ?_⟩
    · rw [← hC, hR]
      rw [hR] at hbr
      exact hbr
    rintro (_ | _ | _ | _ | _ | _) a2 E hp <;> try exact hp.elim
    obtain ⟨ek, eK, eI⟩ := hp
    have eL := ek.same _ _ (by omega) cL rfl
    have eD := ek.same _ _ (Nat.le_refl _) cD rfl
    have elt : w.heap.size + 1 < E.heap.size := (Array.getElem?_eq_some_iff.1 eL).1
    have her := run_endRound (P := P) none eL
    refine ⟨_, _, her, rfl, ⟨hI.putObj _ eI (by omega) eL rfl, ?_, (World.putObj_heap_other (by omega)).trans eD⟩, hKt aK (hKt cK (hKt eK (hKb _ _ _ _ (by omega) eL rfl rfl))), ?_⟩
    · rw [World.putObj_heap_same elt, hR, hR]
      rfl
    · refine ⟨?_, fun k o hk ho hc => ?_⟩
      · have := ak.size
        have := ek.size
        rw [← hC] at this
        simp [World.putObj] at *
        omega
      · have hne : k ≠ w.heap.size + 1 := by omega
        have k1 := ak.same k o (by omega) ho hc
        have k2 : C.heap[k]? = some o := by rw [← hC]; exact (World.putObj_heap_other (by omega)).trans k1
        exact (World.putObj_heap_other (by omega)).trans (ek.same k o (by omega) k2 hc)
  · rintro e W ⟨⟨v, rfl⟩, xs, hS, wI, wL, wD⟩
    have hel := run_endLoop (P := P) wL (by rw [hR]; simp [recL])
    rw [hR] at hel
    exact ⟨none, _, hel, hdone _ xs _ (Nat.le_refl _) hS (hI.putObj _ wI (by omega) wL rfl) ((World.putObj_heap_other (by omega)).trans wD)⟩
end Go.Proofs.YtemggnmooiaokaaGreat
namespace Go.Proofs.YtemggnmooiaokaaGreat
open Go.RowKit Go.Deep Go.Maps

/-- is a berth to be drained? -/
def drS (Bl : List Be) (s : ByteArray) : Bool := match Bl.find? fun x => x.nm.toList == s.toList with
  | some x => x.dr
  | none => false
theorem drB_is (B : Sb) (c : Cp) : drB B c = drS B.bs c.be := rfl
theorem be_one {S : List Be} (h : risR rBe S = true) {s : ByteArray} {k : Nat} (hk : k < S.length) (he : (S[k].nm.toList == s.toList) = true) : drS S s = S[k].dr := by
  have : (S.find? fun x => x.nm.toList == s.toList) = some S[k] := by
    refine find_at hk (fun j hj hjk => ?_) he
    have := ris_lt (r := rBe) (fun a b c => less_trans) h (k - j - 1) j (by omega)
    have e2 : j + (k - j - 1) + 1 = k := by omega
    simp only [e2] at this
    refine bytes_ne.2 fun e => ?_
    unfold rBe at this
    rw [e, ← bytes_eq.1 he, less_irrefl] at this
    cases this
  unfold drS
  rw [this]
theorem be_no {S : List Be} {s : ByteArray} (h : hasBe S s = false) : drS S s = false := by
  have : (S.find? fun x => x.nm.toList == s.toList) = none := by
    rw [List.find?_eq_none]
    unfold hasBe at h
    rw [List.any_eq_false] at h
    exact h
  unfold drS
  rw [this]

set_option maxRecDepth 100000 in
set_option maxHeartbeats 4000000 in
theorem drains_any (lo m : Nat) (sv cv bv : Value) (B : Sb) (s : ByteArray) (w : World) (h : SbAt lo w sv cv bv B) (hx : IxAt w m B) (hs : s.size ≤ maxLen) (hu : risR rBe B.bs = true) :
    Calls Tryz.prog 115 #[.agg #[.int .i64 B.now, sv, cv, bv, .map (some m)], .string s] w fun e w' => e = .returned (.bool (drS B.bs s)) ∧ Below w.heap.size w w' := by
  have HK := hide h
  have HX := hide hx
  have HS := hide hs
  have HU := hide hu
  obtain ⟨a0, k0, rfl⟩ := h.svs.form
  obtain ⟨a1, k1, rfl⟩ := h.cps.form
  obtain ⟨a2, k2, rfl⟩ := h.bes.form
  have hmx := h.bes.max
  unfold maxLen at hmx
  clear h hx hs hu
  go_enter Tryz.func115, Tryz.ntmps115
  go_wp2_with fail
  generalize hWa : w.alloc _ = Wa
  have HB0 : Hid (Below w.heap.size w Wa) := by rw [← hWa]; exact one_al w _
  have FA0 : Hid (Box Wa w.heap.size #[.int .i64 B.now, .slice a0 B.ss.length k0, .slice a1 B.cs.length k1, .slice a2 B.bs.length k2, .map (some m)]) := by rw [← hWa]; exact Box.new _ _ _ _ rfl
  clear hWa
  refine (berthPlace_any lo m _ _ _ B s _ (HK.out.below HB0.out) (HX.out.below HB0.out) HS.out).mono ?_
  rintro e w1 ⟨c, t, rfl, hb1, hf⟩
  have HB1 := hide (bt HB0.out hb1)
  have FA1 := hide (FA0.out.on hb1)
  clear hb1 FA0 HB0 HX
  have x3 := FA1.out.cell 3
  simp at x3
  cases t with
  | false =>
    have HE : Hid (drS B.bs s = false) := be_no hf.out.1.symm
    go_wp2
    go_ret
    exact ⟨ret_bool HE.out.symm, HB1.out⟩
  | true =>
    obtain ⟨k, hk, rfl, he⟩ := hf.out.2 rfl
    have HE : Hid (drS B.bs s = B.bs[k].dr) := be_one HU.out hk he
    obtain ⟨bb, bo, rfl, hbb, -, hcc⟩ := HK.out.bes.full' (by omega)
    obtain ⟨c0, c1⟩ := (hcc k hk).2.below HB1.out hbb
    have i0 : (0 : Int) ≤ (k : Int) := by omega
    have i1' : (k : Int) < (B.bs.length : Int) := by omega
    clear hcc he hf
    obtain ⟨dr, hdr⟩ : ∃ d, d = B.bs[k].dr := ⟨_, rfl⟩
    rw [← hdr] at c1 HE
    clear hdr
    go_wp2
    go_ret
    exact ⟨ret_bool HE.out.symm, HB1.out⟩

/-- what a steward sees of a service, as values -/
def LkIs (lk : List Value) (m : Nat) (sv cv bv : Value) (B : Sb) (x : Sv) (n : Ct) (d : Int) : Prop := lk = [.int .i64 B.now, sv, cv, bv, .map (some m), .string x.nm, .int .i64 x.ve, .bool x.gn, .int .i64 x.im, .int .i64 x.wa, .int .i64 x.dn, .int .i64 x.ov, .int .i64 x.nx, .int .i64 x.pr, .int .i64 x.ls, .int .i64 x.ms, .int .i64 x.ld, .int .i64 x.cl, .int .i64 n.li, .int .i64 n.re, .int .i64 n.ol, .int .i64 n.fa, .int .i64 n.en, .int .i64 d]
theorem Tryz.sizeLook : (Tryz.prog.info? 113).map (·.size) = some 24 := by kernel_rfl
theorem Tryz.sizeCopy : (Tryz.prog.info? 87).map (·.size) = some 7 := by kernel_rfl
theorem LkIs.len {lk : List Value} {m : Nat} {sv cv bv : Value} {B : Sb} {x : Sv} {n : Ct} {d : Int} (h : LkIs lk m sv cv bv B x n d) : lk.length = 24 := by unfold LkIs at h; rw [h]; rfl
theorem LkIs.size {lk : List Value} {m : Nat} {sv cv bv : Value} {B : Sb} {x : Sv} {n : Ct} {d : Int} (h : LkIs lk m sv cv bv B x n d) : (Tryz.prog.info? 113).map (·.size) = some lk.length := by rw [h.len]; exact Tryz.sizeLook
theorem Box.rng {w : World} {β : Nat} {l : List Value} (h : Box w β l.toArray) : w.rangeAt β 0 l := h.range rfl

section
variable (lo m : Nat) (sv cv bv : Value) (B : Sb) (x : Sv) (n : Ct) (d : Int) (lk : List Value) (c : Cp) (w : World)

set_option maxRecDepth 100000 in
set_option maxHeartbeats 4000000 in
theorem onDrained_any (hlk : LkIs lk m sv cv bv B x n d) (h : SbAt lo w sv cv bv B) (hx : IxAt w m B) (hs : c.be.size ≤ maxLen) (hu : risR rBe B.bs = true) :
    Calls Tryz.prog 83 #[.agg lk.toArray, .agg #[.string c.se, .int .i64 c.nu, .int .i64 c.ve, .int .i64 c.im, .int .i64 c.st, .bool c.en, .string c.be]] w fun e w' => e = .returned (.bool (drB B c)) ∧ Below w.heap.size w w' := by
  have HK := hide h
  have HX := hide hx
  have HS := hide hs
  have HU := hide hu
  have HO : ∀ o o', Hid (Below w.heap.size w ((w.alloc o).alloc o')) := fun o o' => (one_al w o).alloc (by simp) o'
  have FA : ∀ o i, ((w.alloc (.cells lk.toArray 113)).alloc o).cell? ⟨w.heap.size, i, none⟩ = lk.toArray[i]? := fun o i => ((Box.new _ _ _ _ rfl).on (one_al _ _)).cell i
  have f0 : ∀ o, ((w.alloc (.cells lk.toArray 113)).alloc o).cell? ⟨w.heap.size, 0, none⟩ = some (.int .i64 B.now) := fun o => by rw [FA, hlk]; rfl
  have f1 : ∀ o, ((w.alloc (.cells lk.toArray 113)).alloc o).cell? ⟨w.heap.size, 1, none⟩ = some sv := fun o => by rw [FA, hlk]; rfl
  have f2 : ∀ o, ((w.alloc (.cells lk.toArray 113)).alloc o).cell? ⟨w.heap.size, 2, none⟩ = some cv := fun o => by rw [FA, hlk]; rfl
  have f3 : ∀ o, ((w.alloc (.cells lk.toArray 113)).alloc o).cell? ⟨w.heap.size, 3, none⟩ = some bv := fun o => by rw [FA, hlk]; rfl
  have f4 : ∀ o, ((w.alloc (.cells lk.toArray 113)).alloc o).cell? ⟨w.heap.size, 4, none⟩ = some (.map (some m)) := fun o => by rw [FA, hlk]; rfl
  obtain ⟨a0, k0, rfl⟩ := h.svs.form
  obtain ⟨a1, k1, rfl⟩ := h.cps.form
  obtain ⟨a2, k2, rfl⟩ := h.bes.form
  clear h hx hs hu FA hlk
  go_enter Tryz.func83, Tryz.ntmps83
  go_wp2_with fail
  refine (drains_any lo m _ _ _ B c.be _ (HK.out.below (HO _ _).out) (HX.out.below (HO _ _).out) HS.out HU.out).mono ?_
  rintro e w1 ⟨rfl, hb1⟩
  have HB1 := hide (bt (HO _ _).out hb1)
  clear hb1 f0 f1 f2 f3 f4
  go_wp2
  go_ret
  exact ⟨ret_bool (drB_is B c).symm, HB1.out⟩

set_option maxRecDepth 100000 in
set_option maxHeartbeats 4000000 in
theorem isOld_any (hlk : LkIs lk m sv cv bv B x n d) :
    Calls Tryz.prog 124 #[.agg lk.toArray, .agg #[.string c.se, .int .i64 c.nu, .int .i64 c.ve, .int .i64 c.im, .int .i64 c.st, .bool c.en, .string c.be]] w fun e w' => e = .returned (.bool (c.im != x.im)) ∧ Below w.heap.size w w' := by
  have HO : ∀ o o', Hid (Below w.heap.size w ((w.alloc o).alloc o')) := fun o o' => (one_al w o).alloc (by simp) o'
  have FA : ∀ o i, ((w.alloc (.cells lk.toArray 113)).alloc o).cell? ⟨w.heap.size, i, none⟩ = lk.toArray[i]? := fun o i => ((Box.new _ _ _ _ rfl).on (one_al _ _)).cell i
  have f8 : ∀ o, ((w.alloc (.cells lk.toArray 113)).alloc o).cell? ⟨w.heap.size, 8, none⟩ = some (.int .i64 x.im) := fun o => by rw [FA, hlk]; rfl
  clear FA hlk
  go_enter Tryz.func124, Tryz.ntmps124
  go_wp2
  go_ret
  exact ⟨ret_bool (by simp), (HO _ _).out⟩

set_option maxRecDepth 100000 in
set_option maxHeartbeats 4000000 in
theorem isMis_any (hlk : LkIs lk m sv cv bv B x n d) (h : SbAt lo w sv cv bv B) (hx : IxAt w m B) (hs : c.be.size ≤ maxLen) (hu : risR rBe B.bs = true) :
    Calls Tryz.prog 109 #[.agg lk.toArray, .agg #[.string c.se, .int .i64 c.nu, .int .i64 c.ve, .int .i64 c.im, .int .i64 c.st, .bool c.en, .string c.be]] w fun e w' => e = .returned (.bool (misB B x c)) ∧ Below w.heap.size w w' := by
  have HK := hide h
  have HX := hide hx
  have HS := hide hs
  have HU := hide hu
  have HLK := hide hlk
  clear h hx hs hu hlk
  have RA : ∀ o, Hid (World.rangeAt ((w.alloc (.cells lk.toArray 113)).alloc o) w.heap.size 0 lk) := fun o => Box.rng ((Box.new _ _ _ _ rfl).on (one_al _ _))
  go_enter Tryz.func109, Tryz.ntmps109
  go_wp2_with (first
    | (refine wpList_load_mid rfl 113 (.tmp 2) rfl w.heap.size 0 rfl lk _ (RA _).out Tryz.underlying113 rfl HLK.out.size ?_))
  generalize hWa : World.alloc (w.alloc _) _ = Wa
  have HB0 : Hid (Below w.heap.size w Wa) := by rw [← hWa]; exact (one_al w _).alloc (by simp) _
  have FA0 : Hid (Box Wa w.heap.size lk.toArray) := by rw [← hWa]; exact (Box.new _ _ _ _ rfl).on (one_al _ _)
  have FC0 : Hid (Box Wa (w.heap.size + 1) #[.string c.se, .int .i64 c.nu, .int .i64 c.ve, .int .i64 c.im, .int .i64 c.st, .bool c.en, .string c.be]) := by rw [← hWa]; exact Box.new _ _ _ _ (by simp)
  clear hWa RA
  refine (isOld_any m _ _ _ B x n d lk c _ HLK.out).mono ?_
  rintro e w1 ⟨rfl, hb1⟩
  have HB1 := hide (bt HB0.out hb1)
  have FA1 := hide (FA0.out.on hb1)
  have FC1 := hide (FC0.out.on hb1)
  clear hb1 HB0 FA0 FC0
  cases hi : (c.im != x.im) with
  | true =>
    have HE : Hid (misB B x c = true) := by unfold Hid misB; rw [hi]; rfl
    go_wp2
    go_ret
    exact ⟨ret_bool HE.out.symm, HB1.out⟩
  | false =>
    have HE : Hid (misB B x c = drB B c) := by unfold Hid misB; rw [hi]; rfl
    go_wp2_with (first
      | (refine wpList_load_gd (by rfl) 113 (.tmp 2) rfl w.heap.size 0 rfl lk _ FA1.out.rng Tryz.underlying113 rfl HLK.out.size ?_)
      | (refine wpList_load_gd (by rfl) 87 (.tmp 3) rfl (w.heap.size + 1) 0 rfl [.string c.se, .int .i64 c.nu, .int .i64 c.ve, .int .i64 c.im, .int .i64 c.st, .bool c.en, .string c.be] _ (FC1.out.range rfl) Tryz.underlying87 rfl Tryz.sizeCopy ?_))
    refine (onDrained_any lo m _ _ _ B x n d lk c _ HLK.out (HK.out.below HB1.out) (HX.out.below HB1.out) HS.out HU.out).mono ?_
    rintro e w2 ⟨rfl, hb2⟩
    have HB2 := hide (bt HB1.out hb2)
    clear hb2
    go_wp2
    go_ret
    exact ⟨ret_bool HE.out.symm, HB2.out⟩
end
end Go.Proofs.YtemggnmooiaokaaGreat
