import Derived.Test.YtpdlcccnlciecaaGreatV49
import Derived.Test.YtpdlcccnlciecaaGreatV50
namespace Go.Proofs.YtpdlcccnlciecaaGreat
open Go.RowKit Go.Deep

/-- the six cares as a row -/
def carV (lk : List Value) : Array Value := #[.nilFunc, .func (.func 75) #[.agg lk.toArray] #[], .func (.func 76) #[.agg lk.toArray] #[], .func (.func 77) #[.agg lk.toArray] #[], .func (.func 78) #[.agg lk.toArray] #[], .func (.func 79) #[.agg lk.toArray] #[], .func (.func 80) #[.agg lk.toArray] #[]]
theorem svB_ov {now : Int} {x : Sv} (h : svB now x = true) : (0 ≤ x.ov ∧ x.ov ≤ 10) ∧ (x.pr ≠ 0 → 1 ≤ x.pr ∧ x.pr ≤ 1000000 ∧ 0 ≤ x.ld ∧ x.ld ≤ 1000000 ∧ x.ls ≤ x.ms ∧ 0 ≤ x.cl ∧ x.cl ≤ 3) := by
  unfold svB perB at h
  simp only [Bool.and_eq_true] at h
  refine ⟨⟨inB_lo h.2.2.2.2.2.2.1, inB_hi h.2.2.2.2.2.2.1⟩, fun h0 => ?_⟩
  have h1 := h.2.2.2.2.2.2.2.2
  rw [if_neg (by simpa using h0)] at h1
  simp only [Bool.and_eq_true] at h1
  have a := inB_lo h1.1
  have b := inB_hi h1.1
  have c := inB_lo h1.2.1
  have d := inB_hi h1.2.1
  have e := inB_lo h1.2.2.2.1
  have f := inB_lo h1.2.2.2.2
  have g := inB_hi h1.2.2.2.2
  omega
section
variable (lo m : Nat) (sv cv bv : Value) (B : Sb) (x : Sv) (n : Ct) (d : Int) (lk : List Value) (w : World)

set_option maxRecDepth 100000 in
set_option maxHeartbeats 8000000 in
theorem cares_any (hlk : LkIs lk m sv cv bv B x n d) :
    Calls Tryz.prog 56 #[.agg lk.toArray] w fun e w' => e = .returned (.agg (carV lk)) ∧ Below w.heap.size w w' := by
  have FX0 : Hid (∀ o, ((w.alloc (.cells lk.toArray 105)).alloc o).rangeAt w.heap.size 0 lk) := fun o => ((Box.new _ _ _ _ rfl).on (one_al _ _)).rng
  have FR : Hid (Box ((w.alloc (.cells lk.toArray 105)).alloc (.cells #[.nilFunc, .nilFunc, .nilFunc, .nilFunc, .nilFunc, .nilFunc, .nilFunc] 103)) (w.heap.size + 1) #[.nilFunc, .nilFunc, .nilFunc, .nilFunc, .nilFunc, .nilFunc, .nilFunc]) := Box.new _ _ _ _ (by simp)
  have HT : Hid (_ : Prop) := FR.out.there (n := 7) rfl
  have HLK := hide hlk
  clear hlk
  go_enter Tryz.func56, Tryz.ntmps56
  go_wp2_with (first
    | (refine wpList_load_mid rfl 105 (.tmp 1) rfl w.heap.size 0 rfl lk _ (FX0.out _) Tryz.underlying105 rfl HLK.out.size ?_)
    | (refine wpList_store_mid rfl 103 (.tmp 2) (.tmp 15) rfl (w.heap.size + 1) 0 (carV lk) rfl rfl HT.out (by kernel_rfl) (by simp [carV, Value.oneCell']) ?_; refine Hid.out ?_))
  generalize hW : World.setCells _ _ _ _ = W9
  have FR9 : Hid (Box W9 (w.heap.size + 1) (carV lk)) := by unfold Hid; rw [← hW]; exact FR.out.full (cs' := carV lk) rfl
  have HB9 : Hid (Below w.heap.size w W9) := by unfold Hid; rw [← hW]; exact Below.sets (by omega) _ _ ((one_al w _).alloc (by simp) _)
  clear hW FR HT
  refine hide ?_
  go_wp2
  refine bodyPost_ret (v := .agg (carV lk)) (res_cell_mid rfl _ _ (w.heap.size + 1) 0 (carV lk).toList _ rfl (FR9.out.range rfl) Tryz.underlying103 rfl (by kernel_rfl)) rfl ⟨rfl, HB9.out⟩

theorem care_at (kind : Int) (hk : 1 ≤ kind ∧ kind ≤ 6) (hlk : LkIs lk m sv cv bv B x (cx B x) (((drL B x).length : Nat) : Int)) (h : SbAt lo w sv cv bv B) (hx : IxAt w m B) (hv : validB B = true) (hsx : svF B.ss x.nm = some x) (hsv : svB B.now x = true) :
    ∃ f : Nat, (∀ u : World, (Instr.index 103 (.agg (carV lk)) (.int .i64 kind)).run Tryz.prog u = .ok (.func (.func f) #[.agg lk.toArray] #[]) u) ∧ (∀ args W, (callFunc f args).run Tryz.prog W = .ok (.enter f args) W) ∧
      Calls Tryz.prog f #[.agg lk.toArray] w fun e w' => CareIs w (someA (askS kind B x)) e w' := by
  have hn : (cx B x).li = (((liveL B x.nm).length : Nat) : Int) := (live_len B x.nm x.im).symm
  have hol : (cx B x).ol = (((oldL B x).length : Nat) : Int) := (old_len B x).symm
  have hcs := care_same (kind := kind) (B := B) hsv hk
  have hw := svB_wd hsv
  have ho := svB_ov hsv
  rw [← hcs]
  unfold careI
  have hidx : ∀ u : World, ∀ j : Nat, ∀ hj : j < 7, (Instr.index 103 (.agg (carV lk)) (.int .i64 (j : Int))).run Tryz.prog u = .ok ((carV lk)[j]'hj) u := fun u j hj => by
    match j, hj with
    | 0, _ => simp [carV, Instr.index, go_sem, run_underlying Tryz.underlying103, Result.andThen]
    | 1, _ => simp [carV, Instr.index, go_sem, run_underlying Tryz.underlying103, Result.andThen]
    | 2, _ => simp [carV, Instr.index, go_sem, run_underlying Tryz.underlying103, Result.andThen]
    | 3, _ => simp [carV, Instr.index, go_sem, run_underlying Tryz.underlying103, Result.andThen]
    | 4, _ => simp [carV, Instr.index, go_sem, run_underlying Tryz.underlying103, Result.andThen]
    | 5, _ => simp [carV, Instr.index, go_sem, run_underlying Tryz.underlying103, Result.andThen]
    | 6, _ => simp [carV, Instr.index, go_sem, run_underlying Tryz.underlying103, Result.andThen]
  have hk' : kind = 1 ∨ kind = 2 ∨ kind = 3 ∨ kind = 4 ∨ kind = 5 ∨ kind = 6 := by omega
  rcases hk' with rfl | rfl | rfl | rfl | rfl | rfl
  · exact ⟨75, fun u => hidx u 1 (by omega), enters_of Tryz.func75 (by kernel_rfl) rfl, keepNumber_c lo m sv cv bv B x _ _ lk w hlk h hx hv hsx hn hol rfl rfl hw ho.1⟩
  · exact ⟨76, fun u => hidx u 2 (by omega), enters_of Tryz.func76 (by kernel_rfl) rfl, keepImage_c lo m sv cv bv B x _ _ lk w hlk h hx hv hsx hn hol rfl rfl hw ho.1⟩
  · exact ⟨77, fun u => hidx u 3 (by omega), enters_of Tryz.func77 (by kernel_rfl) rfl, endFailed_c lo m sv cv bv B x _ _ lk w hlk h hx hv hsx hn hol rfl rfl hw ho.1⟩
  · exact ⟨78, fun u => hidx u 4 (by omega), enters_of Tryz.func78 (by kernel_rfl) rfl, followLoad_c lo m sv cv bv B x _ _ lk w hlk h hx hv hsx hn hol rfl rfl hw ho.1 ho.2⟩
  · exact ⟨79, fun u => hidx u 5 (by omega), enters_of Tryz.func79 (by kernel_rfl) rfl, clearAway_c lo m sv cv bv B x _ _ lk w hlk h hx hv hsx hn hol rfl rfl hw ho.1⟩
  · exact ⟨80, fun u => hidx u 6 (by omega), enters_of Tryz.func80 (by kernel_rfl) rfl, leaveDrained_c lo m sv cv bv B x _ _ lk w hlk h hx hv hsx hn hol rfl rfl hw ho.1⟩
end
end Go.Proofs.YtpdlcccnlciecaaGreat
namespace Go.Proofs.YtpdlcccnlciecaaGreat
open Go.RowKit Go.Deep

/-! acts that are gathered -/
def AcG (base : Nat) (W : World) (v : Value) (As : List Ac) : Prop := ∃ L c, AcGrow base W v L c ∧ L.map Prod.fst = As
theorem AcG.start (base : Nat) (W : World) : AcG base W (.slice none 0 0) [] := ⟨[], _, AcGrow.start base W, rfl⟩
theorem AcG.below {base : Nat} {W W' : World} {v : Value} {As : List Ac} (h : AcG base W v As) (hb : Below W.heap.size W W') : AcG base W' v As := by
  obtain ⟨L, c, h1, h2⟩ := h
  exact ⟨L, c, h1.below hb, h2⟩
theorem AcG.owns {base : Nat} {W : World} {v : Value} {As : List Ac} (h : AcG base W v As) : AcsOwn base W.heap.size W v As := by
  obtain ⟨L, c, h1, h2⟩ := h
  exact h1.owns h2
theorem AcG.form {base : Nat} {W : World} {v : Value} {As : List Ac} (h : AcG base W v As) : ∃ a cap, v = .slice a As.length cap := by
  obtain ⟨L, c, h1, h2⟩ := h
  obtain ⟨a, cap, h3⟩ := owns_form h1.own
  exact ⟨a, cap, by rw [h3, ← h2, List.length_map]⟩
theorem AcG.own {base : Nat} {W : World} {v : Value} {As : List Ac} (h : AcG base W v As) : ∃ xs, W.ownsRow base 47 8 v As.length xs ∧ ∀ (c0 c1 g cap : Nat) (W1 W2 : World) (A : Ac) (ea : Option Addr) (ek : Nat), Below W.heap.size W W1 → AcSize A → W.heap.size ≤ c0 → c1 ≤ W1.heap.size → base ≤ W.heap.size → c0 ≤ c1 → EnsOwn c0 c1 W1 (.slice ea A.es.length ek) A.es →
    W2.ownsRow base 47 8 (.slice (some ⟨g, 0, none⟩) (As.length + 1) cap) (As.length + 1) (xs ++ [.string A.sv, .int .i64 A.sn, .int .i64 A.cr, .int .i64 A.wa, .int .i64 A.cl, .bool A.sc, .slice ea A.es.length ek, .bool A.dp]) → W1.grownBy W2 v.ownBlock → (v.ownBlock = some g ∨ g = W1.heap.size) → AcG base W2 (.slice (some ⟨g, 0, none⟩) (As.length + 1) cap) (As ++ [A]) := by
  obtain ⟨L, c, h1, h2⟩ := h
  have hl : L.length = As.length := by rw [← h2, List.length_map]
  refine ⟨Acgs L, by rw [← hl]; exact h1.own, ?_⟩
  intro c0 c1 g cap W1 W2 A ea ek hb hz hc0 hc1 hbase q0 e0 hown hgrow hat
  rw [← hl] at hown ⊢
  exact ⟨L ++ [(A, .slice ea A.es.length ek)], _, h1.snoc hb (A, .slice ea A.es.length ek) hz hc0 hc1 hbase q0 e0 hown hgrow hat, by rw [List.map_append, h2]; rfl⟩
theorem ERow.ens {W : World} {base : Nat} {ev : Value} {L : List En} (h : ERow W base ev L) (hm : L.length ≤ 1048576) : EnsOwn base W.heap.size W ev L := h.own (by unfold maxLen; omega)
theorem eight_news (X : World) (o : Obj) (l : List Value) (t : TypeId) : ∀ (j : Nat) (u : Value), l[j]? = some u → ((X.alloc o).alloc (.cells l.toArray t)).cell? ((⟨X.heap.size + 1, 0, none⟩ : Addr).add j) = some u := fun j u hu => by
  rw [Go.WideShapes.add_plain, Nat.zero_add, (Box.new (X.alloc o) l.toArray t (X.heap.size + 1) (by simp)).cell j]
  simpa using hu
theorem Tryz.infoAct : (Tryz.prog.info? 47).map (fun i => (i.zero, i.size, i.bytes)) = some (some (.agg #[.string ⟨#[]⟩, .int .i64 0, .int .i64 0, .int .i64 0, .int .i64 0, .bool false, .slice none 0 0, .bool false]), 8, 88) := by kernel_rfl
def askL (kind : Int) (B : Sb) (S : List Sv) : List Ac := (S.map (askS kind B)).filter asksB
theorem askL_next (kind : Int) (B : Sb) {k : Nat} (h : k < B.ss.length) : askL kind B (B.ss.take (k + 1)) = askL kind B (B.ss.take k) ++ (if asksB (askS kind B B.ss[k]) then [askS kind B B.ss[k]] else []) := by
  unfold askL
  rw [List.take_succ_eq_append_getElem h, List.map_append, List.filter_append]
  congr 1
  simp only [List.map_cons, List.map_nil, List.filter_cons, List.filter_nil]
theorem askL_len (kind : Int) (B : Sb) (S : List Sv) : (askL kind B S).length ≤ S.length := by
  unfold askL
  exact Nat.le_trans (List.length_filter_le _ _) (by simp)
end Go.Proofs.YtpdlcccnlciecaaGreat
namespace Go.Proofs.YtpdlcccnlciecaaGreat
open Go.RowKit Go.Deep

theorem ERow.max {W : World} {base : Nat} {ev : Value} {L : List En} (h : ERow W base ev L) : L.length ≤ maxLen := by
  rcases h.2 with ⟨-, e⟩ | ⟨g, cap, cur, -, -, -, h1, h2, -⟩
  · omega
  · omega
theorem cnt_sv (B : Sb) (x : Sv) : (cntF B x).sv = x.nm := by
  unfold cntF
  dsimp only
  split
  · rfl
  · split
    · cases fstC B x.im (liveL B x.nm) with
      | none => rfl
      | some c =>
        dsimp only
        split <;> rfl
    · rfl
theorem rep_sv (B : Sb) (x : Sv) (L : List Cp) : (repF B x L).sv = x.nm := by
  unfold repF
  dsimp only
  split
  · rfl
  · split <;> rfl
theorem scl_sv (x : Sv) : (sclF x).sv = x.nm := by
  unfold sclF
  split
  · rfl
  split
  · rfl
  split
  · rfl
  split
  · rfl
  split
  · rfl
  split <;> rfl
theorem askS_sv (kind : Int) (B : Sb) (x : Sv) : (askS kind B x).sv = x.nm := by
  unfold askS
  split
  · rfl
  split
  · split <;> rfl
  split
  · exact cnt_sv B x
  split
  · exact rep_sv B x _
  split
  · split
    · exact rep_sv B x _
    · rfl
  split
  · split
    · exact scl_sv x
    · rfl
  · rfl
theorem AcsOwn.wide {lo hi lo' hi' : Nat} {w : World} {v : Value} {Xl : List Ac} (h : AcsOwn lo hi w v Xl) (h1 : lo' ≤ lo) (h2 : hi ≤ hi') : AcsOwn lo' hi' w v Xl := by
  rcases h with h | ⟨b, off, cap, c, X, e1, e2, e3, e4, e5, e6⟩
  · exact Or.inl h
  · exact Or.inr ⟨b, off, cap, c, X, e1, e2, e3, e4, e5, e6.lt, Nat.le_trans h1 e6.low, Nat.lt_of_lt_of_le e6.bh h2, fun i hi' => ⟨Nat.le_trans h1 (e6.seg i hi').1, Nat.le_trans (e6.seg i hi').2.1 h2, (e6.seg i hi').2.2⟩, e6.mono, e6.frz, e6.row⟩
theorem valid_ss8 {B : Sb} (h : validB B = true) : B.ss.length ≤ 8 := by
  unfold validB at h
  simp only [Bool.and_eq_true, decide_eq_true_eq] at h
  exact h.2.1
theorem eight_one (A : Ac) (ea : Option Addr) (ek : Nat) : ∀ u ∈ ([.string A.sv, .int .i64 A.sn, .int .i64 A.cr, .int .i64 A.wa, .int .i64 A.cl, .bool A.sc, .slice ea A.es.length ek, .bool A.dp] : List Value), u.oneCell' = true := fun u hu => by
  simp only [List.mem_cons, List.not_mem_nil, or_false] at hu
  rcases hu with rfl | rfl | rfl | rfl | rfl | rfl | rfl | rfl <;> rfl
section
variable (lo m : Nat) (sv cv bv : Value) (B : Sb) (kind : Int) (w : World)

set_option maxRecDepth 100000 in
set_option maxHeartbeats 8000000 in
theorem stewAsked_any (hk : 1 ≤ kind ∧ kind ≤ 6) (h : SbAt lo w sv cv bv B) (hx : IxAt w m B) (hv : validB B = true) :
    Calls Tryz.prog 23 #[.int .i64 kind, .agg #[.int .i64 B.now, sv, cv, bv, .map (some m)]] w fun e w' => ∃ v, e = .returned v ∧ Below w.heap.size w w' ∧ AcsOwn w.heap.size w'.heap.size w' v (askL kind B B.ss) := by
  have HK := hide h
  have HX := hide hx
  have HV := hide hv
  have HKI := hide hk
  have hm := h.svs.max
  unfold maxLen at hm
  obtain ⟨a0, k0, rfl⟩ := h.svs.form
  obtain ⟨a1, k1, rfl⟩ := h.cps.form
  obtain ⟨a2, k2, rfl⟩ := h.bes.form
  clear h hx hv hk
  go_enter Tryz.func23, Tryz.ntmps23
  go_wp2
  generalize hWa : w.alloc _ = Wa
  have HB0 : Hid (Below w.heap.size w Wa) := by unfold Hid; rw [← hWa]; exact one_al w _
  have FX0 : Hid (Box Wa w.heap.size #[.int .i64 B.now, .slice a0 B.ss.length k0, .slice a1 B.cs.length k1, .slice a2 B.bs.length k2, .map (some m)]) := by unfold Hid; rw [← hWa]; exact Box.new _ _ _ _ rfl
  clear hWa
  go_loopw [14, 5] (fun i v wr => ∃ k : Nat, i = .int .i64 k ∧ k ≤ B.ss.length ∧ Below w.heap.size w wr ∧ Box wr w.heap.size #[.int .i64 B.now, .slice a0 B.ss.length k0, .slice a1 B.cs.length k1, .slice a2 B.bs.length k2, .map (some m)] ∧ AcG (w.heap.size + 1) wr v (askL kind B (B.ss.take k))) (fun i _ _ => B.ss.length - (intOf i).toNat)
  case atStart => exact ⟨0, rfl, by omega, HB0.out, FX0.out, AcG.start _ _⟩
  case round =>
    obtain ⟨k, rfl, hk, hb, hbx, hac⟩ := hrel
    have HB := hide hb
    have FX := hide hbx
    have HAC := hide hac
    clear hb hbx hac HB0 FX0
    by_cases hlt : k < B.ss.length
    · obtain ⟨b, off, rfl, hbw, -, hc⟩ := HK.out.svs.full' (by omega)
      obtain ⟨hsz, hcc⟩ := hc k hlt
      have hmem := List.getElem_mem hlt
      obtain ⟨x, hxx⟩ : ∃ x, x = B.ss[k] := ⟨_, rfl⟩
      have HNX : Hid (askL kind B (B.ss.take (k + 1)) = askL kind B (B.ss.take k) ++ (if asksB (askS kind B x) then [askS kind B x] else [])) := by unfold Hid; rw [hxx]; exact askL_next kind B hlt
      have HSX : Hid (svF B.ss x.nm = some x) := by unfold Hid; rw [hxx]; exact sv_one (valid_cps HV.out).2.1 hlt (by simp)
      have HSV : Hid (svB B.now x = true) := by unfold Hid; rw [hxx]; exact all_at (valid_ss HV.out) hlt
      rw [← hxx] at hcc hsz
      have HR : Hid (wr.rangeAt b (off + k * 13) [.string x.nm, .int .i64 x.ve, .bool x.gn, .int .i64 x.im, .int .i64 x.wa, .int .i64 x.dn, .int .i64 x.ov, .int .i64 x.nx, .int .i64 x.pr, .int .i64 x.ls, .int .i64 x.ms, .int .i64 x.ld, .int .i64 x.cl]) := (hcc.below HB.out hbw).rng
      have HSZ : Hid (x.nm.size ≤ maxLen) := hsz.s0
      have HRX : Hid (∀ o, (wr.alloc o).rangeAt w.heap.size 0 [.int .i64 B.now, .slice (some ⟨b, off, none⟩) B.ss.length k0, .slice a1 B.cs.length k1, .slice a2 B.bs.length k2, .map (some m)]) := fun o => (FX.out.on (one_al _ _)).range rfl
      have i0 : (0 : Int) ≤ (k : Int) := by omega
      have i1 : (k : Int) < (B.ss.length : Int) := by omega
      clear hc hcc hsz hmem hxx
      go_wp2_with (first
        | (refine wpList_load_mid rfl 50 (.tmp 16) rfl b (off + k * 13) rfl [.string x.nm, .int .i64 x.ve, .bool x.gn, .int .i64 x.im, .int .i64 x.wa, .int .i64 x.dn, .int .i64 x.ov, .int .i64 x.nx, .int .i64 x.pr, .int .i64 x.ls, .int .i64 x.ms, .int .i64 x.ld, .int .i64 x.cl] _ HR.out Tryz.underlying50 rfl (by kernel_rfl) ?_)
        | (refine wpList_load_mid rfl 56 (.tmp 3) rfl w.heap.size 0 rfl [.int .i64 B.now, .slice (some ⟨b, off, none⟩) B.ss.length k0, .slice a1 B.cs.length k1, .slice a2 B.bs.length k2, .map (some m)] _ (HRX.out _) Tryz.underlying56 rfl (by kernel_rfl) ?_))
      generalize hWb : wr.alloc _ = Wb
      have HBb : Hid (Below wr.heap.size wr Wb) := by unfold Hid; rw [← hWb]; exact one_al _ _
      clear hWb
      refine (lookAt_any lo m _ _ _ B x _ (HK.out.below (bt HB.out HBb.out)) (HX.out.below (bt HB.out HBb.out)) HV.out).mono ?_
      rintro e w1 ⟨lk, rfl, hlk, hb1⟩
      have HLK : Hid (LkIs lk m (.slice (some ⟨b, off, none⟩) B.ss.length k0) (.slice a1 B.cs.length k1) (.slice a2 B.bs.length k2) B x (cx B x) (((drL B x).length : Nat) : Int)) := hlk.out
      have HB1 := hide (bt HBb.out hb1)
      clear hlk hb1 HBb
      go_wp2_with fail
      refine (cares_any m _ _ _ B x _ _ lk _ HLK.out).mono ?_
      rintro e w2 ⟨rfl, hb2⟩
      have HB2 := hide (bt HB1.out hb2)
      clear hb2 HB1
      obtain ⟨f, hidx, hen, hcall⟩ := care_at lo m _ _ _ B x lk w2 kind HKI.out HLK.out (HK.out.below (bt HB.out HB2.out)) (HX.out.below (bt HB.out HB2.out)) HV.out HSX.out HSV.out
      have HCALL := hide hcall
      clear hcall
      go_wp2_with fail
      clear hidx hen
      refine HCALL.out.mono ?_
      clear HCALL
      rintro e w3 ⟨A, ea, ek, hA, rfl, hrow, hb3⟩
      have HROW := hide hrow
      have HB3 := hide (bt HB2.out hb3)
      have hz3 := hb3.size
      have hz2 := HB2.out.size
      clear hrow hb3
      rw [show (acL A (.slice ea A.es.length ek)).toArray = #[.string A.sv, .int .i64 A.sn, .int .i64 A.cr, .int .i64 A.wa, .int .i64 A.cl, .bool A.sc, .slice ea A.es.length ek, .bool A.dp] from rfl]
      cases hq : asksB (askS kind B x) with
      | false =>
        have HS : Hid (someA (askS kind B x) = none) := by unfold Hid someA; rw [hq]; rfl
        have hbo : (someA (askS kind B x)).isSome = false := by rw [HS.out]; rfl
        have HNX2 : Hid (askL kind B (B.ss.take (k + 1)) = askL kind B (B.ss.take k)) := by unfold Hid; rw [HNX.out, hq]; simp
        clear hA
        go_wp2
        go_roundw
        case rel => exact ⟨k + 1, by go_num, by omega, bt HB.out (bt HB3.out (one_al _ _)), FX.out.on (bt HB3.out (one_al _ _)), by rw [HNX2.out]; exact HAC.out.below (bt HB3.out (one_al _ _))⟩
        case measure => simp [intOf]; omega
      | true =>
        have HS : Hid (someA (askS kind B x) = some (askS kind B x)) := by unfold Hid someA; rw [hq]; rfl
        have hbo : (someA (askS kind B x)).isSome = true := by rw [HS.out]; rfl
        have HNX2 : Hid (askL kind B (B.ss.take (k + 1)) = askL kind B (B.ss.take k) ++ [A]) := by
          unfold Hid
          rw [HNX.out, hq, hA, HS.out]
          rfl
        have HSA : Hid (AcSize A) := ⟨by rw [hA, HS.out]; show (askS kind B x).sv.size ≤ maxLen; rw [askS_sv]; exact HSZ.out⟩
        obtain ⟨xs, hown, hsnoc⟩ := HAC.out.own
        have HSN := hide hsnoc
        have hlen : (askL kind B (B.ss.take k)).length ≤ 8 := by
          have h1 := askL_len kind B (B.ss.take k)
          have h2 : B.ss.length ≤ 8 := valid_ss8 HV.out
          simp at h1
          omega
        obtain ⟨N, hN⟩ : ∃ N, N = (askL kind B (B.ss.take k)).length := ⟨_, rfl⟩
        rw [← hN] at hown hlen
        have HOW : Hid (∀ o o', ((w3.alloc o).alloc o').ownsRow (w.heap.size + 1) 47 8 u5 N xs) := fun o o' => ownsB_on hown (bt (bt HB3.out (one_al _ _)) (one_al _ _))
        obtain ⟨it, hi, hz0, hz1, hz2'⟩ := info_parts Tryz.infoAct
        have hzr : w.heap.size + 1 ≤ wr.heap.size := FX.out.lt
        clear hA hown hsnoc
        go_wp2_with (at_builtin; refine wpList_append_lies _ rfl (.tmp 29) (.tmp 31) 28 rfl (w.heap.size + 1) 47 it _ 8 88 Tryz.underlying28 hi hz0 hz1 hz2' rfl (by decide) _ N xs rfl (HOW.out _ _) ⟨w3.heap.size + 1, 0, none⟩ 1 1 [.string A.sv, .int .i64 A.sn, .int .i64 A.cr, .int .i64 A.wa, .int .i64 A.cl, .bool A.sc, .slice ea A.es.length ek, .bool A.dp] rfl rfl (eight_news _ _ _ _) (eight_one A ea ek) (by omega) (by unfold maxLen; omega) (by omega) (by simp; omega) (w3.heap.size + 1 + 1) (by simp) ?_; intro g cap w4 ho4 hg4 hat4 hl4)
        generalize hW1 : World.alloc (w3.alloc _) _ = W1 at hg4
        have HW1 : Hid (Below wr.heap.size wr W1) := by unfold Hid; rw [← hW1]; exact bt (bt HB3.out (one_al _ _)) (one_al _ _)
        have HR1 : Hid (ERow W1 w2.heap.size (.slice ea A.es.length ek) A.es) := by unfold Hid; rw [← hW1]; exact (HROW.out.below (one_al _ _)).below (one_al _ _)
        have hzW : W1.heap.size = w3.heap.size + 1 + 1 := by rw [← hW1]; simp
        have HOW1 : Hid (W1.ownsRow (w.heap.size + 1) 47 8 u5 N xs) := by unfold Hid; rw [← hW1]; exact HOW.out _ _
        have HEN := hide (HR1.out.own HR1.out.max)
        have HBw : Hid (Below w.heap.size w w4) := (bt HB.out HW1.out).trans ((ownsB_grown HOW1.out hg4 (by omega)).mono (by omega))
        have FX4 : Hid (Box w4 w.heap.size #[.int .i64 B.now, .slice (some ⟨b, off, none⟩) B.ss.length k0, .slice a1 B.cs.length k1, .slice a2 B.bs.length k2, .map (some m)]) := (FX.out.on HW1.out).row HOW1.out hg4 (by omega)
        have HAC4 : Hid (AcG (w.heap.size + 1) w4 (.slice (some ⟨g, 0, none⟩) (N + 1) cap) (askL kind B (B.ss.take (k + 1)))) := by
          unfold Hid
          rw [HNX2.out]
          subst hN
          exact HSN.out w2.heap.size W1.heap.size g cap W1 w4 A ea ek HW1.out HSA.out (by omega) (Nat.le_refl _) (by omega) (by omega) HEN.out ho4 hg4 (by rw [hzW]; exact hat4)
        clear ho4 hg4 hat4 hl4 hW1
        rw [hN] at HAC4
        go_roundw
        case rel => exact ⟨k + 1, by go_num, by omega, HBw.out, FX4.out, HAC4.out⟩
        case measure => simp [intOf]; omega
    · have e : k = B.ss.length := by omega
      subst e
      rw [List.take_length] at HAC
      go_wp2
      go_ret
      exact ⟨_, rfl, HB.out, HAC.out.owns.wide (by omega) (Nat.le_refl _)⟩
end
end Go.Proofs.YtpdlcccnlciecaaGreat
namespace Go.Proofs.YtpdlcccnlciecaaGreat
open Go.RowKit Go.Deep

theorem askS_out {kind : Int} (hk : ¬ (1 ≤ kind ∧ kind ≤ 6)) (B : Sb) (x : Sv) : askS kind B x = ac0 x := by
  unfold askS
  rw [if_neg (by omega)]
  split
  · rw [if_neg (by omega)]
  · rw [if_neg (by omega), if_neg (by omega), if_neg (by omega), if_neg (by omega)]
theorem askL_out {kind : Int} (hk : ¬ (1 ≤ kind ∧ kind ≤ 6)) (B : Sb) (S : List Sv) : askL kind B S = [] := by
  unfold askL
  rw [List.filter_eq_nil_iff]
  intro a ha
  obtain ⟨x, -, rfl⟩ := List.mem_map.1 ha
  rw [askS_out hk]
  simp [asksB, ac0]
theorem AcsOwn.none (lo hi : Nat) (w : World) (a : Option Addr) (cap : Nat) : AcsOwn lo hi w (.slice a 0 cap) [] := Or.inl ⟨a, cap, rfl, rfl⟩
section
variable (lo : Nat) (sv cv bv : Value) (B : Sb) (kind : Int) (w : World)

set_option maxRecDepth 100000 in
set_option maxHeartbeats 8000000 in
theorem implAsk_any (h : SbAt lo w sv cv bv B) :
    Calls Tryz.prog 7 #[.int .i64 kind, .agg #[.int .i64 B.now, sv, cv, bv]] w fun e w' => ∃ v, e = .returned v ∧ Below w.heap.size w w' ∧ AcsOwn w.heap.size w'.heap.size w' v (askF kind B) := by
  have HK := hide h
  obtain ⟨a0, k0, rfl⟩ := h.svs.form
  obtain ⟨a1, k1, rfl⟩ := h.cps.form
  obtain ⟨a2, k2, rfl⟩ := h.bes.form
  clear h
  go_enter Tryz.func7, Tryz.ntmps7
  go_wp2_with fail
  generalize hWa : w.alloc _ = Wa
  have HB0 : Hid (Below w.heap.size w Wa) := by unfold Hid; rw [← hWa]; exact one_al w _
  clear hWa
  refine (validIndex_any lo _ _ _ B _ (HK.out.below HB0.out)).mono ?_
  rintro e w1 ⟨hb1, hcase⟩
  have HB1 := hide (bt HB0.out hb1)
  clear hb1
  rcases hcase with ⟨hv, rfl⟩ | ⟨hv, m, hx, rfl⟩
  · have HE : Hid (askF kind B = []) := by unfold Hid askF; rw [hv]; rfl
    clear hv
    go_wp2
    go_ret
    exact ⟨_, rfl, bt HB1.out (one_al _ _), by rw [HE.out]; exact AcsOwn.none _ _ _ _ _⟩
  · have HX := hide hx
    have HV := hide hv
    by_cases hk : 1 ≤ kind ∧ kind ≤ 6
    · have HE : Hid (askF kind B = askL kind B B.ss) := by unfold Hid askF; rw [hv]; rfl
      have hin : inB 1 6 kind = true := by unfold inB; simp; omega
      have HKI := hide hk
      clear hx hv hk
      go_wp2_with (go_at_call 22; refine (within_any _ _ _ _).mono ?_; rintro e w' ⟨rfl, rfl⟩)
      generalize hWb : w1.alloc _ = Wb
      have hbb : Below w1.heap.size w1 Wb := by rw [← hWb]; exact one_al _ _
      have HB2 := hide (bt HB1.out hbb)
      have HX2 := hide (HX.out.below hbb)
      clear hWb hbb
      refine (stewAsked_any lo m _ _ _ B kind _ HKI.out (HK.out.below HB2.out) HX2.out HV.out).mono ?_
      rintro e w3 ⟨v, rfl, hb3, ho⟩
      have HB3 := hide (bt HB2.out hb3)
      have HO := hide ho
      have hz := HB2.out.size
      clear hb3 ho
      go_wp2
      go_ret
      exact ⟨_, rfl, HB3.out, by rw [HE.out]; exact HO.out.wide hz (Nat.le_refl _)⟩
    · have HE : Hid (askF kind B = []) := by unfold Hid askF; rw [hv]; exact askL_out hk B B.ss
      have hin : inB 1 6 kind = false := by unfold inB; simp; omega
      clear hx hv hk
      go_wp2_with (go_at_call 22; refine (within_any _ _ _ _).mono ?_; rintro e w' ⟨rfl, rfl⟩)
      go_ret
      exact ⟨_, rfl, bt HB1.out (one_al _ _), by rw [HE.out]; exact AcsOwn.none _ _ _ _ _⟩
end
end Go.Proofs.YtpdlcccnlciecaaGreat
