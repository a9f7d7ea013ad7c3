import Derived.Test.YtpdlcccnlciecaaGreatV40
import Derived.Test.YtpdlcccnlciecaaGreatV41
namespace Go.Proofs.YtpdlcccnlciecaaGreat
open Go.RowKit Go.Deep Go.Shelf

attribute [local go_sem] Oper.semAt_some
variable {Pq : Cp → Prop}

theorem wpListIn_load_mid {F : Fence} {n : Nat} {P : Program} {ops : Array Oper} {rest : List Oper} {op : Oper} {a : Act} {w : World} {Q : Exit → Act → World → Prop} (hw : Region.wanted op (yielded ops a.tmps) = true) (ty : TypeId) (x : Operand) (ho : op.op = .load ty x)
    (b o : Nat) (hx : a.eval x = .pointer (some ⟨b, o, none⟩)) (cs : List Value) (d : TypeDesc) (hc : w.rangeAt b o cs)
    (hu : P.underlying ty = some d) (hd : d.isRow = true) (hi : (P.info? ty).map (·.size) = some cs.length)
    (h : wpListIn F n P ops Q rest (a.put op.dst (.agg cs.toArray)) w) : wpListIn F n P ops Q (op :: rest) a w :=
  BigFrame.wpListIn_want hw fun _ hK => by
    unfold Oper.wpIn
    refine ⟨by simp [Oper.about, ho], ?_⟩
    rw [Oper.semAt_plain F _ _ (by rw [ho]; intro c hc'; cases hc')]
    unfold execOp
    simp only [ho, hx, Instr.loadAt, Instr.sureAddr, Sem.run_bind, Sem.run_pure, Result.andThen_ok, run_loadVar_mid w b o ty cs d hc hu hd hi]
    exact hK _ _ h
theorem wpListIn_store_mid {F : Fence} {n : Nat} {P : Program} {ops : Array Oper} {rest : List Oper} {op : Oper} {a : Act} {w : World} {Q : Exit → Act → World → Prop} (hw : Region.wanted op (yielded ops a.tmps) = true) (ty : TypeId) (x y : Operand) (ho : op.op = .store ty x y)
    (b o : Nat) (cells : Array Value) (hx : a.eval x = .pointer (some ⟨b, o, none⟩)) (hy : a.eval y = .agg cells)
    (ht : w.there b o cells.size) (hi : (P.info? ty).map (·.size) = some cells.size) (h1 : cells.all (·.oneCell') = true)
    (h : wpListIn F n P ops Q rest (a.put op.dst undef) (w.setCells b o cells.toList)) : wpListIn F n P ops Q (op :: rest) a w :=
  BigFrame.wpListIn_want hw fun _ hK => by
    unfold Oper.wpIn
    refine ⟨by simp [Oper.about, ho], ?_⟩
    rw [Oper.semAt_plain F _ _ (by rw [ho]; intro c hc'; cases hc')]
    unfold execOp
    simp only [ho, hx, hy, Instr.storeAt, Instr.sureAddr, Sem.run_bind, Sem.run_pure, Result.andThen_ok, run_storeVar_mid w b o ty cells ht hi h1]
    exact hK _ _ h
theorem operIn_store_mid {F : Fence} {n : Nat} {P : Program} {op : Oper} {a : Act} {w : World} {K : Act → World → Prop} {Q : Exit → Act → World → Prop} (ty : TypeId) (x y : Operand) (ho : op.op = .store ty x y)
    (b o : Nat) (cells : Array Value) (hx : a.eval x = .pointer (some ⟨b, o, none⟩)) (hy : a.eval y = .agg cells)
    (ht : w.there b o cells.size) (hi : (P.info? ty).map (·.size) = some cells.size) (h1 : cells.all (·.oneCell') = true)
    (h : K (a.put op.dst undef) (w.setCells b o cells.toList)) : op.wpIn F n P a w K Q := by
  unfold Oper.wpIn
  refine ⟨by simp [Oper.about, ho], ?_⟩
  rw [Oper.semAt_plain F _ _ (by rw [ho]; intro c hc'; cases hc')]
  unfold execOp
  simp only [ho, hx, hy, Instr.storeAt, Instr.sureAddr, Sem.run_bind, Sem.run_pure, Result.andThen_ok, run_storeVar_mid w b o ty cells ht hi h1]
  exact h
theorem KeepsBut.sets {S : Nat → Prop} {B : Nat} (b : Nat) (hb : S b) : ∀ (vs : List Value) (o : Nat) (W : World), KeepsBut S B W (W.setCells b o vs)
  | [], _, _ => KeepsBut.refl _ _ _
  | v :: vs, o, W => (KeepsBut.set W ⟨b, o, none⟩ v hb).trans (KeepsBut.sets b hb vs (o + 1) _)
theorem KeepsOthers.sets (b : Nat) : ∀ (vs : List Value) (o : Nat) (W : World), KeepsOthers W (W.setCells b o vs)
  | [], _, _ => KeepsOthers.refl _
  | v :: vs, o, W => (KeepsOthers.setCell W _ v).trans (KeepsOthers.sets b vs (o + 1) _)

theorem res_cell_tmp {P : Program} {fn : Func} {p q : Tmp} {ty : TypeId} (h : fn.results = #[.cell p ty, .tmp q]) (tmps : Array Value) (w : World) (b o : Nat) (cs : List Value) (d : TypeDesc)
    (hp : tmps.getD p undef = .pointer (some ⟨b, o, none⟩)) (hc : w.rangeAt b o cs) (hu : P.underlying ty = some d) (hd : d.isRow = true) (hi : (P.info? ty).map (·.size) = some cs.length) :
    (results fn tmps).run P w = .ok (.tuple #[.agg cs.toArray, tmps.getD q undef]) w := by
  have hp' : tmps[p]?.getD undef = .pointer (some ⟨b, o, none⟩) := by simpa using hp
  simp [results, h, hp', asAddr, run_loadVar_mid w b o ty cs d hc hu hd hi]

/-- the first of what came, by an order -/
def fsF (cm : Cp → Cp → Int) : Option (CpP Pq) → List (CpP Pq) → Option (CpP Pq)
  | b, [] => b
  | none, y :: l => fsF cm (some y) l
  | some b, y :: l => fsF cm (some (if cm y.1 b.1 < 0 then y else b)) l
theorem fsF_snoc (cm : Cp → Cp → Int) (y : CpP Pq) : ∀ (l : List (CpP Pq)) (b : Option (CpP Pq)), fsF cm b (l ++ [y]) = some (match fsF cm b l with | none => y | some c => if cm y.1 c.1 < 0 then y else c)
  | [], none => rfl
  | [], some _ => rfl
  | z :: l, none => fsF_snoc cm y l (some z)
  | _ :: l, some _ => fsF_snoc cm y l _
def zCp : Cp := { se := ⟨#[]⟩, nu := 0, ve := 0, im := 0, st := 0, en := false, be := ⟨#[]⟩ }
def fsC : Option (CpP Pq) → Cp
  | none => zCp
  | some b => b.1
/-- the world while the first is looked for -/
structure FsW (w : World) (cf Z : Nat) (ba ca : Array Value) (b : Option (CpP Pq)) (X : World) : Prop where
  cmp : Box X w.heap.size #[.func (.func cf) ba ca]
  res : Box X (w.heap.size + 1) (cpL zCp).toArray
  fst : Box X (w.heap.size + 2) (cpL (fsC b)).toArray
  there : Box X (w.heap.size + 3) #[.bool b.isSome]
  below : Below w.heap.size w X
  big : Z ≤ X.heap.size
theorem FsW.grow {w : World} {cf Z : Nat} {ba ca : Array Value} {b : Option (CpP Pq)} {X Y : World} {row : Option Nat} (h : FsW w cf Z ba ca b X) (hg : X.grownBy Y row) (hr : ∀ r, row = some r → Z ≤ r ∧ ∃ o : Obj, X.heap[r]? = some o ∧ o.isCells = false) (hw : w.heap.size + 3 < Z) : FsW w cf Z ba ca b Y := by
  have hk : ∀ {β : Nat} {cs : Array Value}, Box X β cs → β ≤ w.heap.size + 3 → Box Y β cs := fun hb hl => hb.ofBlk (hg.block _ hb.lt (fun e => by have := (hr _ e.symm).1; omega))
  exact ⟨hk h.cmp (by omega), hk h.res (by omega), hk h.fst (by omega), hk h.there (by omega),
    h.below.trans ⟨hg.os, hg.tape, hg.output, hg.size, fun j hj => hg.block j (Nat.lt_of_lt_of_le hj h.below.size) (fun e => by have := (hr _ e.symm).1; omega)⟩, Nat.le_trans h.big hg.size⟩
theorem FsW.on {w : World} {cf Z : Nat} {ba ca : Array Value} {b : Option (CpP Pq)} {X Y : World} (h : FsW w cf Z ba ca b X) (hb : Below X.heap.size X Y) : FsW w cf Z ba ca b Y :=
  ⟨h.cmp.on hb, h.res.on hb, h.fst.on hb, h.there.on hb, bt h.below hb, Nat.le_trans h.big hb.size⟩

theorem FsW.mid {w : World} {cf Z : Nat} {ba ca : Array Value} {b : Option (CpP Pq)} {X : World} (h : FsW w cf Z ba ca b X) (y : CpP Pq) : Box (X.setCells (w.heap.size + 2) 0 (cpL y.1)) (w.heap.size + 3) #[.bool b.isSome] :=
  h.there.ofBlk (World.heap_setCells_other X _ _ _ h.there.lt (by omega))
theorem FsW.put {w : World} {cf Z : Nat} {ba ca : Array Value} {b : Option (CpP Pq)} {X : World} (h : FsW w cf Z ba ca b X) (y : CpP Pq) : FsW w cf Z ba ca (some y) ((X.setCells (w.heap.size + 2) 0 (cpL y.1)).setCell ⟨w.heap.size + 3, 0, none⟩ (.bool true)) := by
  have hs : ∀ {β : Nat} {cs : Array Value}, Box X β cs → β ≠ w.heap.size + 2 → Box (X.setCells (w.heap.size + 2) 0 (cpL y.1)) β cs := fun hb hl => hb.ofBlk (World.heap_setCells_other X _ _ _ hb.lt hl)
  refine ⟨(hs h.cmp (by omega)).setFar (by simp) _, (hs h.res (by omega)).setFar (by simp) _, (h.fst.full (cs' := (cpL y.1).toArray) rfl).setFar (by simp) _, (hs h.there (by omega)).set (k := 0) _ (by simp), (Below.sets (by omega) _ _ h.below).setCell (by simp only []; omega) _, ?_⟩
  simp only [World.setCell, size_sets, Array.size_modify]
  exact h.big

set_option maxRecDepth 100000 in
set_option maxHeartbeats 8000000 in
theorem first_any (w : World) (gf : Nat) (lb : Array Value) (cf : Nat) (ba ca : Array Value) (cm : Cp → Cp → Int) (N : Nat) (Sx : List (CpP Pq) → Prop) (eg : ∀ args W, (callFunc gf args).run Tryz.prog W = .ok (.enter gf args) W)
    (ec : ∀ args W, (callFunc cf args).run Tryz.prog W = .ok (.enter cf args) W)
    (hcm : ∀ (W : World) (y z : CpP Pq), Below w.heap.size w W → Calls Tryz.prog cf (ba ++ (#[.agg #[.string y.1.se, .int .i64 y.1.nu, .int .i64 y.1.ve, .int .i64 y.1.im, .int .i64 y.1.st, .bool y.1.en, .string y.1.be], .agg #[.string z.1.se, .int .i64 z.1.nu, .int .i64 z.1.ve, .int .i64 z.1.im, .int .i64 z.1.st, .bool z.1.en, .string z.1.be]] ++ ca)) W fun e W' => e = .returned (.int .i64 (cm y.1 z.1)) ∧ Below W.heap.size W W')
    (hseq : ∀ wl : World, Below w.heap.size w wl → wl.heap.size = w.heap.size + 4 → Passes 5 Tryz.prog gf lb encL (KeepsBut (fun k => k = w.heap.size + 2 ∨ k = w.heap.size + 3) wl.heap.size) Sx N wl (w.heap.size + 4 + 2) 3) :
    Calls Tryz.prog 101 #[.func (.func gf) #[] lb, .func (.func cf) ba ca] w fun e w' => ∃ xs, e = .returned (.tuple #[.agg (cpL (fsC (fsF cm none xs))).toArray, .bool (fsF cm none xs).isSome]) ∧ Sx xs ∧ Below w.heap.size w w' := by
  have HQ := hide hseq
  have HCM := hide hcm
  clear hseq hcm
  refine (callsIn_wide (n := 6)).1 ?_
  refine callsIn_of_wp_marks Tryz.func101 rfl trivial ?_ rfl
  simp only [Tryz.ntmps101, List.size_toArray, List.length_cons, List.length_nil, Nat.reduceAdd, Nat.reduceSub, Array.replicate_succ, Array.replicate_zero, List.push_toArray, List.append_toArray, List.nil_append, List.cons_append]
  refine wpIn_wide.2 ?_
  go_wp2_with fail
  generalize hwl : World.alloc (World.alloc (World.alloc (w.alloc _) _) _) _ = wl
  have HI0 : Hid (FsW w cf (w.heap.size + 4) ba ca (none : Option (CpP Pq)) wl) := by
    unfold Hid
    rw [← hwl]
    exact ⟨(((Box.new _ _ _ _ rfl).on (one_al _ _)).on (one_al _ _)).on (one_al _ _), ((Box.new _ _ _ _ (by simp)).on (one_al _ _)).on (one_al _ _), (Box.new _ _ _ _ (by simp)).on (one_al _ _), Box.new _ _ _ _ (by simp),
      (((one_al w _).alloc (by simp) _).alloc (by simp; omega) _).alloc (by simp; omega) _, by simp⟩
  have hsz : wl.heap.size = w.heap.size + 4 := by rw [← hwl]; simp
  clear hwl
  have HS2 : Passes 5 Tryz.prog gf lb encL (KeepsBut (fun k => k = w.heap.size + 2 ∨ k = w.heap.size + 3) wl.heap.size) Sx N wl (wl.heap.size + 2) 3 := by have := HQ.out wl HI0.out.below hsz; rw [← hsz] at this; exact this
  refine (wpIn_wide (n := 6)).1 ?_
  refine range_pass (by decide) (gf := gf) (lb := lb) rfl eg HS2
    KeepsBut.trans KeepsBut.put (Below.refl _ _) (fun _ => rfl)
    (fun pre X => FsW w cf wl.heap.size ba ca (fsF cm none pre) X)
    (fun s X Y row hs hg hr => hs.grow hg hr (by omega))
    (by rw [hsz]; exact HI0.out)
    (fun y a' X => ∃ β : Nat, wl.heap.size ≤ β ∧ a' = { tmps := #[.func (.func gf) #[] lb, .func (.func cf) ba ca, undef, .pointer (some ⟨w.heap.size, 0, none⟩), .pointer (some ⟨w.heap.size + 1, 0, none⟩), .bool false, .pointer (some ⟨w.heap.size + 1 + 1, 0, none⟩), .pointer (some ⟨w.heap.size + 1 + 1 + 1, 0, none⟩), .pointer (some ⟨β, 0, none⟩), .func (.func gf) #[] lb, .agg #[.string y.1.se, .int .i64 y.1.nu, .int .i64 y.1.ve, .int .i64 y.1.im, .int .i64 y.1.st, .bool y.1.en, .string y.1.be], undef, undef, undef, undef, undef, undef, undef, undef, undef, undef, undef, undef], defers := [] } ∧ Box X β #[.string y.1.se, .int .i64 y.1.nu, .int .i64 y.1.ve, .int .i64 y.1.im, .int .i64 y.1.st, .bool y.1.en, .string y.1.be])
    (fun y a' s X Y row hs hg hr => by
      obtain ⟨β, hβ, e1, e2⟩ := hs
      exact ⟨β, hβ, e1, e2.ofBlk (hg.block _ e2.lt (fun e => by
        obtain ⟨-, o, ho, hc⟩ := hr _ e.symm
        obtain ⟨o', ho', hc'⟩ := cells_of_cell (e2.cell 0)
        rw [ho] at ho'
        cases ho'
        rw [hc] at hc'
        cases hc'))⟩) ?assign ?body ?done
  case assign =>
    intro l pre y X hI
    have HI := hide hI
    have hbg := hI.big
    clear hI
    gi_wp2
    exact ⟨(KeepsOthers.alloc _ _).from _, KeepsBut.grow (World.grownBy_alloc _ _ none), HI.out.on (one_al _ _), X.heap.size, hbg, rfl, Box.new _ _ _ _ rfl⟩
  case body =>
    rintro l pre y a' X hll hrec hI ⟨β, hβ, rfl, hY2⟩ hlen hzb
    have HI := hide hI
    have hbg := hI.big
    have FY := hide hY2
    have HN := hide (fsF_snoc cm y pre none)
    have t0 := hI.there.cell 0
    have tf := hI.there.free 0
    have yc := hY2.cell
    simp at t0
    clear hI hY2 hrec
    generalize hb : fsF cm none pre = b at *
    cases b with
    | none =>
      simp at t0
      have HT : Hid (X.there (w.heap.size + 1 + 1) 0 7) := HI.out.fst.there rfl
      gi_wp2
      refine ⟨fun _ h => (by cases h), ?_⟩
      have HO7 : Hid ((#[.string y.1.se, .int .i64 y.1.nu, .int .i64 y.1.ve, .int .i64 y.1.im, .int .i64 y.1.st, .bool y.1.en, .string y.1.be] : Array Value).all (·.oneCell') = true) := by unfold Hid; simp [Value.oneCell']
      clear yc
      gi_wp2_with (first
        | (refine wpListIn_load_mid (by rfl) 82 (.tmp 8) rfl β 0 rfl [.string y.1.se, .int .i64 y.1.nu, .int .i64 y.1.ve, .int .i64 y.1.im, .int .i64 y.1.st, .bool y.1.en, .string y.1.be] _ (FY.out.range rfl) Tryz.underlying82 rfl Tryz.sizeCopy ?_)
        | (refine wpListIn_store_mid (by rfl) 82 (.tmp 6) (.tmp 20) rfl (w.heap.size + 1 + 1) 0 #[.string y.1.se, .int .i64 y.1.nu, .int .i64 y.1.ve, .int .i64 y.1.im, .int .i64 y.1.st, .bool y.1.en, .string y.1.be] rfl rfl HT.out Tryz.sizeCopy HO7.out ?_; generalize hX2 : World.setCells X _ _ _ = X2; have FM : Hid (Box X2 (w.heap.size + 1 + 1 + 1) #[.bool false]) := (by unfold Hid; rw [← hX2]; exact HI.out.mid y); have HP := hide hX2; clear hX2; have m0 := FM.out.cell 0; have mf := FM.out.free 0; simp at m0))
      rw [HN.out, ← HP.out]
      exact ⟨((KeepsOthers.sets _ _ _ X).trans (KeepsOthers.setCell _ _ _)).from _, (KeepsBut.sets _ (Or.inl rfl) _ _ X).trans (KeepsBut.set _ _ _ (Or.inr rfl)), by have := HI.out.put y; rw [hsz] at this; exact this⟩
    | some c =>
      simp at t0
      have c0 := HI.out.cmp.cell 0
      simp at c0
      clear yc tf
      gi_wp2_with (first
        | (refine wpListIn_load_mid (by rfl) 82 (.tmp 8) rfl β 0 rfl [.string y.1.se, .int .i64 y.1.nu, .int .i64 y.1.ve, .int .i64 y.1.im, .int .i64 y.1.st, .bool y.1.en, .string y.1.be] _ (FY.out.range rfl) Tryz.underlying82 rfl Tryz.sizeCopy ?_)
        | (refine wpListIn_load_mid (by rfl) 82 (.tmp 6) rfl (w.heap.size + 1 + 1) 0 rfl [.string c.1.se, .int .i64 c.1.nu, .int .i64 c.1.ve, .int .i64 c.1.im, .int .i64 c.1.st, .bool c.1.en, .string c.1.be] _ (HI.out.fst.range rfl) Tryz.underlying82 rfl Tryz.sizeCopy ?_))
      clear t0 c0
      refine ⟨trivial, (CallsIn.inRound l (callsIn_wide.2 (HCM.out X y c HI.out.below))).mono ?_⟩
      rintro e X1 ⟨rfl, hb1⟩
      have HB1 := hide hb1
      have HI1 := hide (HI.out.on hb1)
      have FY1 := hide (FY.out.on hb1)
      have HO7 : Hid ((#[.string y.1.se, .int .i64 y.1.nu, .int .i64 y.1.ve, .int .i64 y.1.im, .int .i64 y.1.st, .bool y.1.en, .string y.1.be] : Array Value).all (·.oneCell') = true) := by unfold Hid; simp [Value.oneCell']
      have HT : Hid (X1.there (w.heap.size + 1 + 1) 0 7) := HI1.out.fst.there rfl
      clear hb1
      by_cases hlt : cm y.1 c.1 < 0
      · have HE : Hid (fsF cm none (pre ++ [y]) = some y) := by unfold Hid; rw [HN.out]; exact congrArg some (if_pos hlt)
        gi_wp2_with (first
          | (refine wpListIn_load_mid (by rfl) 82 (.tmp 8) rfl β 0 rfl [.string y.1.se, .int .i64 y.1.nu, .int .i64 y.1.ve, .int .i64 y.1.im, .int .i64 y.1.st, .bool y.1.en, .string y.1.be] _ (FY1.out.range rfl) Tryz.underlying82 rfl Tryz.sizeCopy ?_)
          | (refine wpListIn_store_mid (by rfl) 82 (.tmp 6) (.tmp 20) rfl (w.heap.size + 1 + 1) 0 #[.string y.1.se, .int .i64 y.1.nu, .int .i64 y.1.ve, .int .i64 y.1.im, .int .i64 y.1.st, .bool y.1.en, .string y.1.be] rfl rfl HT.out Tryz.sizeCopy HO7.out ?_; generalize hX2 : World.setCells X1 _ _ _ = X2; have FM : Hid (Box X2 (w.heap.size + 1 + 1 + 1) #[.bool true]) := (by unfold Hid; rw [← hX2]; exact HI1.out.mid y); have HP := hide hX2; clear hX2; have m0 := FM.out.cell 0; have mf := FM.out.free 0; simp at m0))
        rw [HE.out, ← HP.out]
        exact ⟨(KeepsFrom.ofBelow HB1.out).trans (((KeepsOthers.sets _ _ _ X1).trans (KeepsOthers.setCell _ _ _)).from _), (KeepsBut.grow (grown_of_below HB1.out)).trans ((KeepsBut.sets _ (Or.inl rfl) _ _ X1).trans (KeepsBut.set _ _ _ (Or.inr rfl))), by have := HI1.out.put y; rw [hsz] at this; exact this⟩
      · have HE : Hid (fsF cm none (pre ++ [y]) = some c) := by unfold Hid; rw [HN.out]; exact congrArg some (if_neg hlt)
        gi_wp2
        rw [HE.out]
        exact ⟨KeepsFrom.ofBelow HB1.out, KeepsBut.grow (grown_of_below HB1.out), HI1.out⟩
  case done =>
    rintro Dd ys X hD hS hI hKd
    have HI := hide hI
    have HS := hide hS
    have HKD := hide hKd
    have hbg := hI.big
    clear hI hS hKd
    generalize hb : fsF cm none ys = b at *
    have HT : Hid (X.there (w.heap.size + 1) 0 7) := HI.out.res.there rfl
    have HO7 : Hid ((cpL (fsC b)).toArray.all (·.oneCell') = true) := by unfold Hid cpL; simp [Value.oneCell']
    have HB := hide hb
    clear hb
    go_wp2_with fail
    refine Code.wp_mono NoPanic.imp ?_
    refine wp_region_held_drew (S := fun W => Box W (w.heap.size + 1 + 1) (cpL (fsC b)).toArray ∧ Box W (w.heap.size + 1 + 1 + 1) #[.bool b.isSome]) (by kernel_rfl) ⟨HI.out.fst.drew, HI.out.there.drew⟩ (fun hHeld => ?_)
    refine wpAnyH_take (i := 0) (v := .agg (cpL (fsC b)).toArray) rfl (by kernel_rfl) (by kernel_rfl) (by kernel_rfl) (fun _ _ _ h => h) (yieldsIf_load_mid (by rfl) 82 (.tmp 6) rfl (w.heap.size + 1 + 1) 0 rfl (cpL (fsC b)) _ (fun W hW => hW.1.rng) Tryz.underlying82 rfl Tryz.sizeCopy) hHeld ?_
    try simp only [Act.put, List.getElem_toArray, List.getElem_cons_zero, List.setIfInBounds_toArray, List.set_cons_zero, List.set_cons_succ]
    refine wpAnyH_take (i := 1) (v := .bool b.isSome) rfl (by kernel_rfl) (by kernel_rfl) (by kernel_rfl) (fun _ _ _ h => h) (Or.inl ⟨by rfl, fun W hW => by have hf := hW.2.cell 0; simp at hf; go_simp⟩) hHeld ?_
    try simp only [Act.put, List.getElem_toArray, List.getElem_cons_succ, List.getElem_cons_zero, List.setIfInBounds_toArray, List.set_cons_zero, List.set_cons_succ]
    refine wpAnyH_ready (rs := [2]) (by kernel_rfl) (by simp) ?_
    refine AllReadyH.cons rfl (fun K hK => ?_) AllReadyH.nil
    rw [if_pos (by rfl)]
    refine wp_store_mid 82 (.tmp 4) (.tmp 21) rfl (w.heap.size + 1) 0 (cpL (fsC b)).toArray rfl rfl HT.out Tryz.sizeCopy HO7.out ?_
    refine hK.out _ _ ⟨hHeld.1.ofBlk (World.heap_setCells_other _ _ _ _ hHeld.1.lt (by omega)), hHeld.2.ofBlk (World.heap_setCells_other _ _ _ _ hHeld.2.lt (by omega))⟩ (fun hHeld => ?_)
    clear hK K
    try simp only [Act.put, List.getElem_toArray, List.getElem_cons_succ, List.getElem_cons_zero]
    refine wpAnyH_take (i := 3) (v := .bool b.isSome) rfl (by kernel_rfl) (by kernel_rfl) (by kernel_rfl) (fun _ _ _ h => h) (Or.inl ⟨by rfl, fun W hW => by go_simp⟩) hHeld ?_
    try simp only [Act.put, List.getElem_toArray, List.getElem_cons_succ, List.getElem_cons_zero, List.setIfInBounds_toArray, List.set_cons_zero, List.set_cons_succ]
    refine wpAnyH_done (by kernel_rfl) ?_ _
    refine NoPanic.normal ?_
    generalize hX2 : World.setCells X.drew _ _ _ = X2
    have HX2 : Hid (Below w.heap.size w X2) := by unfold Hid; rw [← hX2]; exact Below.sets (by omega) _ _ HI.out.below.drew
    have FR2 : Hid (Box X2 (w.heap.size + 1) (cpL (fsC b)).toArray) := by unfold Hid; rw [← hX2]; exact HI.out.res.drew.full rfl
    have hK2 : X2.heap[Dd]? = some (.deferred (some [])) := by
      rw [← hX2]
      exact (World.heap_setCells_other X.drew _ _ _ (Array.getElem?_eq_some_iff.1 HKD.out).1 (by omega)).trans HKD.out
    clear hX2 hHeld
    go_wp2
    refine ⟨by simp, .inl ⟨_, _, rfl, run_takeDeferred hK2, ?_⟩⟩
    have FR3 : Box (X2.putObj Dd (.deferred none)) (w.heap.size + 1) (cpL (fsC b)).toArray := FR2.out.ofBlk ((grownBy_putObj' X2 Dd _).block _ FR2.out.lt (fun e => by have := Option.some.inj e; omega))
    exact ⟨_, res_cell_tmp rfl _ _ (w.heap.size + 1) 0 (cpL (fsC b)) _ rfl FR3.rng Tryz.underlying82 rfl Tryz.sizeCopy, ys, by rw [HB.out]; rfl, HS.out, HX2.out.trans (belowK_b (w := w) (Nat.le_refl _) X2 Dd _ _ (by omega) hK2 rfl rfl)⟩
end Go.Proofs.YtpdlcccnlciecaaGreat
namespace Go.Proofs.YtpdlcccnlciecaaGreat
open Go.RowKit Go.Deep
variable {Pq : Cp → Prop}

/-! the first to end: mathematics -/
theorem fs_some (B : Sb) (im : Int) : ∀ (l : List (CpP Pq)) (b : CpP Pq), (fsF (soonI B im) (some b) l).map (·.1) = some ((l.map (·.1)).foldl (pickC B im) b.1)
  | [], _ => rfl
  | y :: l, b => by
    have h := soonI_neg B im y.1 b.1
    have e : (if soonI B im y.1 b.1 < 0 then y else b).1 = pickC B im b.1 y.1 := by
      unfold pickC
      rw [← h]
      by_cases h2 : soonI B im y.1 b.1 < 0
      · rw [if_pos h2, if_pos (decide_eq_true h2)]
      · rw [if_neg h2, if_neg (by simpa using h2)]
    rw [fsF, fs_some B im l, e]
    rfl
theorem fs_fst (B : Sb) (im : Int) (l : List (CpP Pq)) : (fsF (soonI B im) none l).map (·.1) = fstC B im (l.map (·.1)) := by
  cases l with
  | nil => rfl
  | cons y l => exact fs_some B im l y
theorem fs_isSome (B : Sb) (im : Int) (l : List (CpP Pq)) : (fsF (soonI B im) none l).isSome = (fstC B im (l.map (·.1))).isSome := by
  rw [← fs_fst]
  cases fsF (soonI B im) none l <;> rfl
theorem fs_get (B : Sb) (im : Int) (l : List (CpP Pq)) {c : Cp} (h : fstC B im (l.map (·.1)) = some c) : fsC (fsF (soonI B im) none l) = c := by
  rw [← fs_fst] at h
  cases e : fsF (soonI B im) none l with
  | none => rw [e] at h; cases h
  | some b => rw [e] at h; exact Option.some.inj h
theorem fst_mem (B : Sb) (im : Int) : ∀ (l : List Cp) (c : Cp), l.foldl (pickC B im) c ∈ c :: l
  | [], _ => List.mem_singleton.2 rfl
  | d :: l, c => by
    have := fst_mem B im l (pickC B im c d)
    rw [List.foldl_cons]
    rcases List.mem_cons.1 this with h | h
    · rw [h]
      unfold pickC
      split
      · exact List.mem_cons_of_mem _ (List.mem_cons_self ..)
      · exact List.mem_cons_self ..
    · exact List.mem_cons_of_mem _ (List.mem_cons_of_mem _ h)
theorem fstC_mem {B : Sb} {im : Int} {l : List Cp} {c : Cp} (h : fstC B im l = some c) : c ∈ l := by
  cases l with
  | nil => cases h
  | cons d l => cases h; exact fst_mem B im l d
theorem sub_map {B : Sb} {M : List (CpP Pq)} (hM : B.cs = M.map (·.1)) (s : ByteArray) (p : Cp → Bool) : ((M.filter fun y => mineB s y.1).filter fun y => !y.1.en && p y.1).map (·.1) = (liveL B s).filter p := by
  unfold liveL
  rw [hM, List.filter_map, List.filter_map, List.filter_filter, List.filter_filter]
  congr 1
  refine List.filter_congr fun y _ => ?_
  unfold liveB
  simp only [Function.comp]
  cases mineB s y.1 <;> cases y.1.en <;> cases p y.1 <;> rfl
theorem cps_subP {B : Sb} {Pq : Cp → Prop} (h : ∀ c ∈ B.cs, Pq c) : ∃ M : List (CpP Pq), B.cs = M.map (·.1) := by
  refine ⟨B.cs.pmap (fun c hc => ⟨c, hc⟩) h, ?_⟩
  rw [List.map_pmap]
  simp
theorem live_any (B : Sb) (s : ByteArray) : (liveL B s).filter (fun _ => true) = liveL B s := List.filter_eq_self.2 fun _ _ => rfl
theorem live_may (B : Sb) (s : ByteArray) (q : Cp → Bool) : (liveL B s).filter (fun c => q c && mayT B c.se c.nu) = mayL B ((liveL B s).filter q) := by
  unfold mayL
  rw [List.filter_filter]
  exact List.filter_congr fun c _ => Bool.and_comm _ _
end Go.Proofs.YtpdlcccnlciecaaGreat
namespace Go.Proofs.YtpdlcccnlciecaaGreat
open Go.RowKit Go.Deep

set_option maxRecDepth 100000 in
set_option maxHeartbeats 4000000 in
theorem between_any (n ls ms : Int) (w : World) :
    Calls Tryz.prog 110 #[.int .i64 n, .int .i64 ls, .int .i64 ms] w fun e w' => e = .returned (.int .i64 (btw n ls ms)) ∧ Below w.heap.size w w' := by
  go_enter Tryz.func110, Tryz.ntmps110
  go_wp2
  go_ret
  exact ⟨rfl, Below.refl _ _⟩

section
variable (x : Sv) (w : World)

set_option maxRecDepth 100000 in
set_option maxHeartbeats 8000000 in
theorem dueWant_any (hp : 1 ≤ x.pr) (hp2 : x.pr ≤ 1000000) (hl0 : 0 ≤ x.ld) (hl : x.ld ≤ 1000000) (hm : x.ls ≤ x.ms) :
    Calls Tryz.prog 112 #[.agg #[.string x.nm, .int .i64 x.ve, .bool x.gn, .int .i64 x.im, .int .i64 x.wa, .int .i64 x.dn, .int .i64 x.ov, .int .i64 x.nx, .int .i64 x.pr, .int .i64 x.ls, .int .i64 x.ms, .int .i64 x.ld, .int .i64 x.cl]] w fun e w' => e = .returned (.int .i64 (desF x)) ∧ Below w.heap.size w w' := by
  have HD := hide (des_btw hm)
  have hne : x.pr ≠ 0 := by omega
  go_enter Tryz.func112, Tryz.ntmps112
  go_wp2_with fail
  generalize hWa : w.alloc _ = Wa
  have HBa : Hid (Below w.heap.size w Wa) := by unfold Hid; rw [← hWa]; exact one_al w _
  have FS : Hid (Box Wa w.heap.size #[.string x.nm, .int .i64 x.ve, .bool x.gn, .int .i64 x.im, .int .i64 x.wa, .int .i64 x.dn, .int .i64 x.ov, .int .i64 x.nx, .int .i64 x.pr, .int .i64 x.ls, .int .i64 x.ms, .int .i64 x.ld, .int .i64 x.cl]) := by unfold Hid; rw [← hWa]; exact Box.new _ _ _ _ rfl
  clear hWa
  go_cut [2] from 3 to 16 (fun v wc => v = .int .i64 (desF x) ∧ Below Wa.heap.size Wa wc)
  case first =>
    have xn : Nonempty (In (Up Wa)) := ⟨⟨Wa, Below.refl _ _⟩⟩
    have xs := fun (Y : In (Up Wa)) => in_self Y
    have p8 : ∀ Y : In (Up Wa), _ := fun Y => Up.cell Y (FS.out.cell 8)
    have p9 : ∀ Y : In (Up Wa), _ := fun Y => Up.cell Y (FS.out.cell 9)
    have p10 : ∀ Y : In (Up Wa), _ := fun Y => Up.cell Y (FS.out.cell 10)
    have p11 : ∀ Y : In (Up Wa), _ := fun Y => Up.cell Y (FS.out.cell 11)
    simp at p8 p9 p10 p11
    refine wp_region_class (Up Wa) (by kernel_rfl) (by kernel_rfl) ((Below.refl _ _).drew) ?_
    repeat (go_big_quiet_step (first | (go_at_call 110; rename_i Y; exact (between_any _ _ _ _).mono fun _ _ h => ⟨h.1, Up.next Y h.2⟩)))
    refine wpQuiet_nil ?_
    intro wn hw
    obtain ⟨Y, hY⟩ := hw
    have HWN : Below Wa.heap.size Wa wn := by rw [hY]; exact Y.h
    clear hY Y p8 p9 p10 p11 xs xn
    go_wp2
    go_meet
    exact ⟨by rw [HD.out], HWN⟩
  case rest =>
  obtain ⟨rfl, hb⟩ := hcut
  have HB := hide (bt HBa.out hb)
  clear hb
  go_wp2
  go_ret
  exact ⟨rfl, HB.out⟩


end
end Go.Proofs.YtpdlcccnlciecaaGreat
