import Derived.Test.YtaogpeebencnoaaGreatDoorA27
import Derived.Test.YtaogpeebencnoaaGreatDoorA28
namespace Go.Proofs.YtaogpeebencnoaaGreatDoor
open Go.RowKit Go.Deep

/-! what an act does to a book -/
def exB (B : Sb) (A : Ac) : Bool := A.es.all fun e => (cpF B.cs A.sv e.nu).isSome
def veE (B : Sb) (A : Ac) (e : En) : Bool := match cpF B.cs A.sv e.nu with
  | some c => c.ve == e.sn
  | none => false
def veB (B : Sb) (A : Ac) : Bool := A.es.all (veE B A)
def endC (v : Int) (c : Cp) : Cp := { c with en := true, ve := v }
def endX (v : Int) (s : ByteArray) (n : Int) (X : Sb) : Sb := { X with cs := X.cs.modify (cpI X.cs s n) (endC v) }
def endsF (v : Int) (s : ByteArray) : List En → Sb → Option Sb
  | [], X => some X
  | e :: r, X => if mayT X s e.nu then endsF v s r (endX v s e.nu X) else none
def insF (L : List Cp) (c : Cp) : List Cp := L.takeWhile (fun d => aheadB d c) ++ c :: L.dropWhile (fun d => aheadB d c)
def newC (s : ByteArray) (nx v im : Int) : Cp := ⟨s, nx, v, im, 1, false, ⟨#[]⟩⟩
def crF (s : ByteArray) (v im : Int) : Nat → Int → List Cp → List Cp
  | 0, _, L => L
  | n + 1, nx, L => crF s v im n (nx + 1) (insF L (newC s nx v im))
def scS (A : Ac) (x : Sv) : Sv := if A.sc then { x with wa := A.wa, cl := A.cl } else x
/-- what is asked of the rest, behind the ends -/
def six1 (A : Ac) (x : Sv) (n : Ct) : Bool := A.dp && (!x.gn || decide (0 < n.li + n.en))
def six2 (A : Ac) (x : Sv) (li : Int) : Bool := decide (0 < A.cr) && (x.gn || decide (x.wa + x.ov < li + A.cr))
def six3 (A : Ac) (x : Sv) : Bool := A.sc && ((x.pr == 0) || !inB x.ls x.ms A.wa)
def sev (B : Sb) (A : Ac) (x : Sv) : Bool := decide (200 < (B.cs.length : Int) + A.cr) || (decide (1000000 < x.nx + A.cr) || decide (1000000 ≤ B.now))
def finX (B X : Sb) (A : Ac) (x : Sv) : Sb :=
  let ss := X.ss.set (svI B.ss A.sv) { x with nx := x.nx + A.cr, ve := B.now + 1 }
  ⟨B.now + 1, if A.dp then ss.eraseIdx (svI B.ss A.sv) else ss, crF A.sv (B.now + 1) x.im A.cr.toNat x.nx X.cs, X.bs⟩
def appJ (B X : Sb) (A : Ac) (x : Sv) : Sb × Int :=
  if six1 A x (ctL B.cs A.sv x.im) then (B, 6)
  else if six2 A (scS A x) (ctL X.cs A.sv x.im).li then (B, 6)
  else if six3 A (scS A x) then (B, 6)
  else if sev B A (scS A x) then (B, 7)
  else (finX B X A (scS A x), 0)
def appI (B : Sb) (A : Ac) (x : Sv) : Sb × Int := match endsF (B.now + 1) A.sv A.es B with
  | none => (B, 5)
  | some X => appJ B X A x
def appH (B : Sb) (A : Ac) (x : Sv) : Sb × Int := if x.ve == A.sn then (if veB B A then appI B A x else (B, 4)) else (B, 4)
def appG (B : Sb) (A : Ac) (x : Sv) : Sb × Int := if exB B A then appH B A x else (B, 3)
def appF (B : Sb) (A : Ac) : Sb × Int :=
  if actB A then
    match svF B.ss A.sv with
    | none => (B, 3)
    | some x => appG B A x
  else (B, 2)
/-- the place of a copy, or -1 -/
def cpR (L : List Cp) (s : ByteArray) (n : Int) : Int := if (cpF L s n).isSome then (cpI L s n : Int) else -1
theorem CpPl.val {L : List Cp} {s : ByteArray} {n r : Int} (h : CpPl L s n r) : r = cpR L s n := by
  unfold cpR
  rcases h with ⟨rfl, hf⟩ | ⟨rfl, hi, hf⟩
  · rw [hf]; rfl
  · rw [hf]; rfl
theorem cpR_some {L : List Cp} {s : ByteArray} {n : Int} (h : (cpF L s n).isSome = true) : ∃ (ci : Nat) (hi : ci < L.length), cpR L s n = (ci : Int) ∧ cpF L s n = some L[ci] ∧ cpI L s n = ci := by
  obtain ⟨c, hc⟩ := Option.isSome_iff_exists.1 h
  have hc' := hc
  unfold cpF at hc'
  rw [List.find?_eq_some_iff_getElem] at hc'
  obtain ⟨h1, i, hi, hx, hno⟩ := hc'
  have hq : cpI L s n = i := idx_at (f := cpIs s n) hi (fun j hj hji => by simpa using hno j hji) (by rw [hx]; exact h1)
  refine ⟨i, hi, ?_, by rw [hc, hx], hq⟩
  unfold cpR
  rw [h, hq]
  rfl
theorem cpR_neg (L : List Cp) (s : ByteArray) (n : Int) : decide (cpR L s n < 0) = !(cpF L s n).isSome := by
  unfold cpR
  cases (cpF L s n).isSome <;> simp
theorem copyR_any (lo : Nat) (sv cv bv : Value) (B : Sb) (s : ByteArray) (n : Int) (w : World) (h : SbAt lo w sv cv bv B) :
    Calls Tryz.prog 51 #[.agg #[.int .i64 B.now, sv, cv, bv], .string s, .int .i64 n] w fun e w' => e = .returned (.int .i64 (cpR B.cs s n)) ∧ Below w.heap.size w w' :=
  (copy_any lo sv cv bv B s n w h).mono fun _ _ ⟨_, he, hb, hp⟩ => ⟨by rw [he, hp.val], hb⟩
/-- a book and a code, where no memory of one's own is asked for -/
def SbRes (w : World) (e : Ending) (w' : World) (B : Sb) (c : Int) : Prop :=
  ∃ b0 m0 b1 m1 b2 m2, e = .returned (.tuple #[.agg #[.int .i64 B.now, .slice b0 B.ss.length m0, .slice b1 B.cs.length m1, .slice b2 B.bs.length m2], .int .i64 c]) ∧ Below w.heap.size w w' ∧ SbAt 0 w' (.slice b0 B.ss.length m0) (.slice b1 B.cs.length m1) (.slice b2 B.bs.length m2) B
end Go.Proofs.YtaogpeebencnoaaGreatDoor
namespace Go.Proofs.YtaogpeebencnoaaGreatDoor
open Go.RowKit Go.Deep

/-- two cells of one copy are written: it ends -/
theorem CpsOwn.ended {lo hi b off cap : Nat} {w : World} {L : List Cp} (h : CpsOwn lo hi w (.slice (some ⟨b, off, none⟩) L.length cap) L) {ci : Nat} (hci : ci < L.length) (v : Int) :
    CpsOwn lo hi ((w.setCell ⟨b, off + ci * 7 + 5, none⟩ (.bool true)).setCell ⟨b, off + ci * 7 + 2, none⟩ (.int .i64 v)) (.slice (some ⟨b, off, none⟩) L.length cap) (L.modify ci (endC v)) ∧
    Touch lo hi w ((w.setCell ⟨b, off + ci * 7 + 5, none⟩ (.bool true)).setCell ⟨b, off + ci * 7 + 2, none⟩ (.int .i64 v)) := by
  rcases h with ⟨a, c, h, rfl⟩ | ⟨b', off', cap', c, X, h1, h2, h3, h4, h5, h6⟩
  · simp at hci
  · injection h1 with e1 e2 e3
    injection e1 with e1
    injection e1 with e4 e5
    subst e4 e5 e3
    have hr := h6.row ci hci
    rw [h5 ci hci] at hr
    obtain ⟨hs, hc⟩ := hr
    have hbc : b < c ci := Nat.lt_of_lt_of_le h6.bc (h6.le (Nat.zero_le _) (by omega))
    have st : CpSt w b (off + ci * 7) (c ci) (c (ci + 1)) w L[ci] := ⟨Near.refl _ _ _ _ _ _, hbc, hc, h6.frz, h6.lt⟩
    have st2 := (st.s5 true).s2 v
    have hone : CpOne b (off + ci * 7) (c ci) (c (ci + 1)) ((w.setCell ⟨b, off + ci * 7 + 5, none⟩ (.bool true)).setCell ⟨b, off + ci * 7 + 2, none⟩ (.int .i64 v)) (endC v L[ci]) := ⟨⟨hs.s0, hs.s1⟩, st2.cells⟩
    have hrow := h6.near hci st2.near hone
    refine ⟨Or.inr ⟨b, off, cap, c, _, by rw [List.length_modify], ?_, by rw [List.length_modify]; exact h3, by rw [List.length_modify]; exact h4, fun i hi' => ?_, by rw [List.length_modify]; exact hrow⟩, st2.near.wide h6.lt (by have := h6.low; omega) (Nat.le_trans (h6.le (by omega) (Nat.le_refl _)) h6.top) ⟨h6.low, h6.bh⟩⟩
    · intro e
      have := congrArg List.length e
      rw [List.length_modify] at this
      simp at this
      exact h2 this
    · rw [List.length_modify] at hi'
      rw [List.getElem_modify]
      by_cases e : i = ci
      · subst e; simp
      · rw [if_neg e, if_neg (fun e' => e e'.symm)]
        exact h5 i hi'
theorem CpsOwn.frz {lo hi b off cap : Nat} {w : World} {L : List Cp} (h : CpsOwn lo hi w (.slice (some ⟨b, off, none⟩) L.length cap) L) (h0 : 0 < L.length) (i : Nat) : w.frozen? ⟨b, i, none⟩ = false := by
  rcases h with ⟨a, c, h, rfl⟩ | ⟨b', off', cap', c, X, h1, h2, h3, h4, h5, h6⟩
  · simp at h0
  · injection h1 with e1 e2 e3
    injection e1 with e1
    injection e1 with e4 e5
    subst e4 e5 e3
    exact h6.frz i
theorem SbOwn.ended {lo hi b off cap : Nat} {w : World} {sv bv : Value} {X : Sb} (h : SbOwn lo hi w sv (.slice (some ⟨b, off, none⟩) X.cs.length cap) bv X) {ci : Nat} (hci : ci < X.cs.length) (v : Int) :
    SbOwn lo hi ((w.setCell ⟨b, off + ci * 7 + 5, none⟩ (.bool true)).setCell ⟨b, off + ci * 7 + 2, none⟩ (.int .i64 v)) sv (.slice (some ⟨b, off, none⟩) X.cs.length cap) bv { X with cs := X.cs.modify ci (endC v) } ∧
    Touch lo hi w ((w.setCell ⟨b, off + ci * 7 + 5, none⟩ (.bool true)).setCell ⟨b, off + ci * 7 + 2, none⟩ (.int .i64 v)) := by
  obtain ⟨s0, s1, c0, c1, b0, b1, ha, h1, h2, h3⟩ := h
  obtain ⟨g1, g2⟩ := h2.ended hci v
  have y1 := ha.s
  have y2 := ha.c
  have y3 := ha.b
  have y4 := ha.sc
  have y5 := ha.cb
  exact ⟨⟨s0, s1, c0, c1, b0, b1, ha, h1.touch g2 (by omega), g1, h3.touch g2 (by omega)⟩, g2.wide (by omega) (by omega)⟩
theorem SbOwn.cfrz {lo hi b off cap : Nat} {w : World} {sv bv : Value} {X : Sb} (h : SbOwn lo hi w sv (.slice (some ⟨b, off, none⟩) X.cs.length cap) bv X) (h0 : 0 < X.cs.length) (i : Nat) : w.frozen? ⟨b, i, none⟩ = false := by
  obtain ⟨s0, s1, c0, c1, b0, b1, ha, h1, h2, h3⟩ := h
  exact h2.frz h0 i
theorem CpsOwn.blk {lo hi b off cap : Nat} {w : World} {L : List Cp} (h : CpsOwn lo hi w (.slice (some ⟨b, off, none⟩) L.length cap) L) (h0 : 0 < L.length) : lo ≤ b ∧ b < hi := by
  rcases h with ⟨a, c, h, rfl⟩ | ⟨b', off', cap', c, X, h1, h2, h3, h4, h5, h6⟩
  · simp at h0
  · injection h1 with e1 e2 e3
    injection e1 with e1
    injection e1 with e4 e5
    subst e4 e5 e3
    exact ⟨h6.low, h6.bh⟩
theorem SbOwn.cblk {lo hi b off cap : Nat} {w : World} {sv bv : Value} {X : Sb} (h : SbOwn lo hi w sv (.slice (some ⟨b, off, none⟩) X.cs.length cap) bv X) (h0 : 0 < X.cs.length) : lo ≤ b ∧ b < hi := by
  obtain ⟨s0, s1, c0, c1, b0, b1, ha, h1, h2, h3⟩ := h
  have y2 := ha.c
  have := h2.blk h0
  omega
/-- a book on the way, behind some ends -/
structure EndOk (B X : Sb) : Prop where
  now : X.now = B.now
  ss : X.ss = B.ss
  bs : X.bs = B.bs
  len : X.cs.length = B.cs.length
  may : MayOk X
theorem MayOk.ended {X : Sb} (h : MayOk X) (ci : Nat) (v : Int) : MayOk { X with cs := X.cs.modify ci (endC v) } := by
  refine ⟨fun i hi => ?_, h.ss, by simpa using h.len⟩
  have hi2 : i < X.cs.length := by simpa using hi
  have e : (({ X with cs := X.cs.modify ci (endC v) } : Sb).cs[i]'hi).se = (X.cs[i]'hi2).se := by
    show ((X.cs.modify ci (endC v))[i]'hi).se = _
    rw [List.getElem_modify]
    split <;> rfl
  rw [e]
  exact h.sv i hi2
theorem EndOk.ended {B X : Sb} (h : EndOk B X) (ci : Nat) (v : Int) : EndOk B { X with cs := X.cs.modify ci (endC v) } := ⟨h.now, h.ss, h.bs, by simpa using h.len, h.may.ended ci v⟩
theorem endsF_step {v : Int} {s : ByteArray} {es : List En} {X : Sb} {j : Nat} (hj : j < es.length) : endsF v s (es.drop j) X = if mayT X s es[j].nu then endsF v s (es.drop (j + 1)) (endX v s es[j].nu X) else none := by
  rw [List.drop_eq_getElem_cons hj, endsF]
theorem may_some {X : Sb} {s : ByteArray} {n : Int} (h : mayT X s n = true) : (cpF X.cs s n).isSome = true := by
  unfold mayT at h
  cases hq : cpF X.cs s n with
  | none => rw [hq] at h; cases h
  | some c => rfl
theorem valid_now {B : Sb} (h : validB B = true) : 0 ≤ B.now ∧ B.now ≤ 1000000 := by
  unfold validB at h
  simp only [Bool.and_eq_true] at h
  exact ⟨inB_lo h.1, inB_hi h.1⟩
/-- all that lies in memory on the way -/
structure Hs7 (w : World) (P Q R X S T : Array Value) (γ σ τ lo hi : Nat) (sv cv bv : Value) (Xb : Sb) (W : World) : Prop where
  hb : Below w.heap.size w W
  fp : Box W w.heap.size P
  fq : Box W (w.heap.size + 1) Q
  fr : Box W (w.heap.size + 1 + 1) R
  fx : Box W γ X
  fs : Box W σ S
  ft : Box W τ T
  ow : SbOwn lo hi W sv cv bv Xb
theorem Hs7.on {w : World} {P Q R X S T : Array Value} {γ σ τ lo hi : Nat} {sv cv bv : Value} {Xb : Sb} {W W' : World} (h : Hs7 w P Q R X S T γ σ τ lo hi sv cv bv Xb W) (hb : Below W.heap.size W W') : Hs7 w P Q R X S T γ σ τ lo hi sv cv bv Xb W' :=
  ⟨bt h.hb hb, h.fp.on hb, h.fq.on hb, h.fr.on hb, h.fx.on hb, h.fs.on hb, h.ft.on hb, h.ow.below hb⟩
theorem Hs7.setS {w : World} {P Q R X S T : Array Value} {γ σ τ lo hi : Nat} {sv cv bv : Value} {Xb : Sb} {W : World} (h : Hs7 w P Q R X S T γ σ τ lo hi sv cv bv Xb W) (k : Nat) (u : Value) (hk : k < S.size) (h1 : w.heap.size + 1 + 1 < lo) (h2 : hi ≤ γ) (h3 : lo ≤ hi) (h4 : γ < σ) (h5 : σ < τ) : Hs7 w P Q R X (S.set k u) T γ σ τ lo hi sv cv bv Xb (W.setCell ⟨σ, k, none⟩ u) :=
  ⟨h.hb.setCell (by simp only []; omega) _, h.fp.setFar (by simp only []; omega) _, h.fq.setFar (by simp only []; omega) _, h.fr.setFar (by simp only []; omega) _, h.fx.setFar (by simp only []; omega) _, h.fs.set u hk, h.ft.setFar (by simp only []; omega) _,
    h.ow.touch (Touch.setCell σ (σ + 1) W ⟨σ, k, none⟩ u ⟨Nat.le_refl _, Nat.lt_succ_self _⟩) (Or.inl (by omega))⟩
theorem svB_ov {now : Int} {x : Sv} (h : svB now x = true) : 0 ≤ x.ov ∧ x.ov ≤ 10 := by
  unfold svB at h
  simp only [Bool.and_eq_true] at h
  exact ⟨inB_lo h.2.2.2.2.2.2.1, inB_hi h.2.2.2.2.2.2.1⟩
theorem y_bd {B : Sb} {A : Ac} {x : Sv} (h : actB A = true) (hx : svB B.now x = true) : (0 ≤ (scS A x).wa ∧ (scS A x).wa ≤ 10) ∧ (0 ≤ (scS A x).ov ∧ (scS A x).ov ≤ 10) ∧ (1 ≤ (scS A x).nx ∧ (scS A x).nx ≤ 1000000) ∧ (0 ≤ A.cr ∧ A.cr ≤ 20) := by
  unfold actB at h
  simp only [Bool.and_eq_true] at h
  obtain ⟨h1, -, -, h2, -⟩ := h
  have g1 := svB_wd hx
  have g2 := svB_ov hx
  have g3 := svB_nx hx
  have g4 := inB_lo h1
  have g5 := inB_hi h1
  unfold scS
  unfold scB at h2
  cases hs : A.sc with
  | false =>
    simp only [Bool.false_eq_true, if_false]
    omega
  | true =>
    rw [hs] at h2
    simp only [if_true, Bool.and_eq_true] at h2
    have g6 := inB_lo h2.1
    have g7 := inB_hi h2.1
    simp only [if_true]
    omega
theorem valid_sv {B : Sb} {s : ByteArray} {x : Sv} (h : validB B = true) (hf : svF B.ss s = some x) : svB B.now x = true := List.all_eq_true.1 (valid_ss h) x (List.mem_of_find?_eq_some hf)
theorem mayN_any (lo : Nat) (sv cv bv : Value) (X : Sb) (s : ByteArray) (n now : Int) (w : World) (hn : X.now = now) (h : SbAt lo w sv cv bv X) (hm : MayOk X) :
    Calls Tryz.prog 52 #[.agg #[.int .i64 now, sv, cv, bv], .string s, .int .i64 n] w fun e w' => e = .returned (.bool (mayT X s n)) ∧ Below w.heap.size w w' := by
  subst hn
  exact l14MayEnd_any lo sv cv bv X s n w h hm
theorem copyN_any (lo : Nat) (sv cv bv : Value) (X : Sb) (s : ByteArray) (n now : Int) (w : World) (hn : X.now = now) (h : SbAt lo w sv cv bv X) :
    Calls Tryz.prog 51 #[.agg #[.int .i64 now, sv, cv, bv], .string s, .int .i64 n] w fun e w' => e = .returned (.int .i64 (cpR X.cs s n)) ∧ Below w.heap.size w w' := by
  subst hn
  exact copyR_any lo sv cv bv X s n w h
theorem countN_any (lo : Nat) (sv cv bv : Value) (X : Sb) (s : ByteArray) (now : Int) (w : World) (hn : X.now = now) (h : SbAt lo w sv cv bv X) :
    Calls Tryz.prog 53 #[.agg #[.int .i64 now, sv, cv, bv], .string s] w fun e w' => e = .returned (.agg #[.int .i64 (ctB X s).li, .int .i64 (ctB X s).re, .int .i64 (ctB X s).ol, .int .i64 (ctB X s).fa, .int .i64 (ctB X s).en]) ∧ Below w.heap.size w w' := by
  subst hn
  exact (l13Count_any lo sv cv bv X s w h).mono fun _ _ ⟨c, he, hc, hb⟩ => ⟨by rw [he, hc.out], hb⟩
end Go.Proofs.YtaogpeebencnoaaGreatDoor
