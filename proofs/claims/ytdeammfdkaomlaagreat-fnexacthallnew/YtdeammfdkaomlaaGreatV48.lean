import Derived.Test.YtdeammfdkaomlaaGreatV31
import Derived.Test.YtdeammfdkaomlaaGreatV43
import Derived.Test.YtdeammfdkaomlaaGreatV46
import Derived.Test.YtdeammfdkaomlaaGreatV47
namespace Go.Proofs.YtdeammfdkaomlaaGreat
open Go.RowKit Go.Deep

theorem step_append_run {P : Program} {w w' : World} {v v1 v2 : Value} {ops : Array Oper} {o : Oper} {a : Act} {K : Act → World → Prop} {Q : Exit → Act → World → Prop} {E : Prop} (hgd : o.guard = none) (s x : Operand) (t : TypeId)
    (ho : o.op = .call { callee := .builtin .append, args := #[s, x], argTypes := #[t, t] }) (hs : a.eval s = v1) (hx : a.eval x = v2) (hr : (Builtin.append_ #[t, t] o.type #[v1, v2]).run P w = .ok v w') (h : K (a.put o.dst v) w') :
    if Region.wanted o (yielded ops a.tmps) = true then Oper.wp P o a w K Q else E := by
  have hw : Region.wanted o (yielded ops a.tmps) = true := by simp [Region.wanted, hgd]
  rw [if_pos hw]
  unfold Oper.wp execOp
  simp only [ho, resolve, invoke, builtin, Sem.run_bind, Sem.run_pure, Result.andThen_ok, List.map_toArray, List.map_cons, List.map_nil, hs, hx, hr]
  exact h
theorem Box.tch2 {w w' : World} {β lo hi : Nat} {cs : Array Value} (h : Box w β cs) (ht : Touch lo hi w w') (ho : β < lo ∨ hi ≤ β) : Box w' β cs :=
  ⟨Nat.lt_of_lt_of_le h.lt ht.size, fun i => (ht.cell (p := ⟨β, i, none⟩) h.lt ho).trans (h.cell i), fun i => (ht.frozen (p := ⟨β, i, none⟩) h.lt ho).trans (h.free i)⟩
/-! recorders with no list in them -/
structure Nr where
  nu : Int
  of : Int
  up : Bool
  sp : Int
  sk : Int
  dp : Int
  dk : Int
  ld : Bool
  ty : Bool
  ba : Int
  hd : Int
def nrL (x : Nr) : List Value := [.int .i64 x.nu, .int .i64 x.of, .bool x.up, .int .i64 x.sp, .int .i64 x.sk, .slice none 0 0, .int .i64 x.dp, .int .i64 x.dk, .slice none 0 0, .slice none 0 0, .slice none 0 0, .bool x.ld, .bool x.ty, .int .i64 x.ba, .slice none 0 0, .slice none 0 0, .slice none 0 0, .int .i64 x.hd]
def nrU (x : Nr) : Rr := ⟨x.nu, x.of, x.up, ⟨x.sp, x.sk, []⟩, ⟨x.dp, x.dk, []⟩, [], [], x.ld, x.ty, x.ba, [], [], [], x.hd⟩
theorem nrL_len (x : Nr) : (nrL x).length = 18 := rfl
theorem nrL_one (x : Nr) : ∀ u ∈ nrL x, u.oneCell' = true := fun u hu => by
  simp only [nrL, List.mem_cons, List.not_mem_nil, or_false] at hu
  rcases hu with h | h | h | h | h | h | h | h | h | h | h | h | h | h | h | h | h | h <;> (rw [h]; rfl)
theorem nr_c (lo : Nat) (w : World) (x : Nr) : RrC lo w (nrL x) (nrU x) :=
  ⟨none, 0, none, 0, none, 0, none, 0, none, 0, none, 0, none, 0, rfl, ⟨Or.inl ⟨_, _, rfl, rfl⟩, Or.inl ⟨_, _, rfl, rfl⟩, Or.inl ⟨_, _, rfl, rfl⟩, Or.inl ⟨_, _, rfl, rfl⟩, Or.inl ⟨_, _, rfl, rfl⟩, Or.inl ⟨_, _, rfl, rfl⟩, Or.inl ⟨_, _, rfl, rfl⟩⟩⟩
theorem NRow.rrs {w : World} {lo hi : Nat} {v : Value} {L : List Nr} (h : NRow nrL 18 w lo hi v L) : RrsAt lo w v (L.map nrU) := by
  rcases h with ⟨h, rfl⟩ | ⟨g, cap, h1, h2⟩
  · exact Or.inl ⟨_, _, h, rfl⟩
  · by_cases e : L = []
    · subst e; exact Or.inl ⟨_, _, h1, rfl⟩
    · refine Or.inr ⟨g, 0, cap, by rw [List.length_map]; exact h1, by simpa using e, by rw [List.length_map]; exact Nat.le_trans h2.le h2.mx, h2.lt, h2.bs, by rw [List.length_map]; exact h2.le, fun i hi => ⟨nrL (L[i]'(by simpa using hi)), fun j v hv => ?_, ?_⟩⟩
      · have hj : j < 18 := (List.getElem?_eq_some_iff.1 hv).1
        have := h2.get nrL_len (i := i) (by simpa using hi) hj hv
        rw [Nat.zero_add]
        exact this
      · rw [List.getElem_map]; exact nr_c _ _ _
def nwR (i n : Int) : Nr := ⟨i, n, true, 0, 0, 0, 0, false, false, 0, 0⟩
def newP (n : Int) (k : Nat) : List Nr := (List.range k).map fun (i : Nat) => nwR ((i : Int) + 1) n
theorem newP_len (n : Int) (k : Nat) : (newP n k).length = k := by simp [newP]
theorem newP_succ (n : Int) (k : Nat) : newP n (k + 1) = newP n k ++ [nwR ((k : Int) + 1) n] := by simp [newP, List.range_succ]
theorem newL_in {k m : Nat} (hk : k < m) (hm : m ≤ 5) : newL ((k : Int) + 1) (m : Int) = nrL (nwR ((k : Int) + 1) (m : Int)) := by
  unfold newL
  rw [if_pos (by unfold newB inB; simp; omega)]
  rfl
theorem infoRrz : (Tryz.prog.info? 61).map (fun i => (i.zero, i.size, i.bytes)) = some (some (.agg (nwL 0 0 false).toArray), 18, 248) := by kernel_rfl
def newW (n : Int) : List Nr := if inB 1 5 n = true then newP n n.toNat else []

set_option maxRecDepth 20000 in
set_option maxHeartbeats 8000000 in
theorem specNewW_any (n : Int) (w : World) : Calls Tryz.prog 29 #[.int .i64 n] w fun e w' => ∃ v, e = .returned (.agg #[v, .slice none 0 0, .slice none 0 0]) ∧ Below w.heap.size w w' ∧ NRow nrL 18 w' w.heap.size w'.heap.size v (newW n) := by
  go_enter Tryz.func29, Tryz.ntmps29
  cases q : inB 1 5 n with
  | false =>
    have HO : ∀ o o', Hid (Below w.heap.size w ((w.alloc o).alloc o')) := fun o o' => (one_al w o).alloc (by simp) o'
    have HO1 : ∀ o, Hid (Below w.heap.size w (w.alloc o)) := fun o => one_al w o
    have HE : Hid (newW n = []) := by unfold Hid newW; rw [q]; rfl
    go_wp2_with (go_at_call 96; refine (in21_any _ _ _ _).mono ?_; rw [q]; rintro e w' ⟨rfl, rfl⟩)
    refine bodyPost_ret (v := .agg #[.slice none 0 0, .slice none 0 0, .slice none 0 0]) (by simp [results, Tryz.results29, go_sem]) rfl ⟨_, rfl, by first | exact (HO _ _).out | exact (HO1 _).out | (refine Below.setCell ?_ (by simp) _; exact (HO _ _).out), by rw [HE.out]; exact NRow.nil _ _ _ _ _⟩
  | true =>
  obtain ⟨m, hm⟩ : ∃ m : Nat, n = (m : Int) := ⟨n.toNat, by unfold inB at q; have := of_decide_eq_true q; omega⟩
  subst hm
  have hm5 : 1 ≤ m ∧ m ≤ 5 := by unfold inB at q; have := of_decide_eq_true q; omega
  have HE : Hid (newW (m : Int) = newP (m : Int) m) := by unfold Hid newW; rw [q]; simp
  go_upto_region 5 with (go_at_call 96; refine (in21_any _ _ _ _).mono ?_; rw [q]; rintro e w' ⟨rfl, rfl⟩)
  obtain ⟨Wa, hWa, HB, B0, B1⟩ : ∃ Wa, Wa = (w.alloc (.cells #[.slice none 0 0, .slice none 0 0, .slice none 0 0] 35)).alloc (.cells #[.slice none 0 0, .slice none 0 0, .slice none 0 0] 35) ∧ Hid (Below w.heap.size w Wa) ∧ Hid (Box Wa w.heap.size #[.slice none 0 0, .slice none 0 0, .slice none 0 0]) ∧ Hid (Box Wa (w.heap.size + 1) #[.slice none 0 0, .slice none 0 0, .slice none 0 0]) := ⟨_, rfl, bt (one_al _ _) (one_al _ _), (Box.new _ _ _ _ rfl).on (one_al _ _), Box.new _ _ _ _ (by simp)⟩
  rw [← hWa]
  clear hWa q
  go_loopw [4] (fun i wr => ∃ (k : Nat) (v : Value), i = .int .i64 ((k : Int) + 1) ∧ k ≤ m ∧ Below w.heap.size w wr ∧ Box wr w.heap.size #[.slice none 0 0, .slice none 0 0, .slice none 0 0] ∧ Box wr (w.heap.size + 1) #[v, .slice none 0 0, .slice none 0 0] ∧ NRow nrL 18 wr (w.heap.size + 2) wr.heap.size v (newP (m : Int) k)) (fun i _ => m + 1 - (intOf i).toNat)
  case atStart => exact ⟨0, _, rfl, by omega, HB.out, B0.out, B1.out, NRow.nil _ _ _ _ _⟩
  case round =>
    clear HB B0 B1
    obtain ⟨k, v, rfl, hk, hb, b0, b1, hrow⟩ := hrel
    have HB := hide hb
    have B0 := hide b0
    have B1 := hide b1
    have HN := hide hrow
    obtain ⟨a, c, hv⟩ := hrow.form
    rw [newP_len] at hv
    subst hv
    have hwl : w.heap.size + 1 < wr.heap.size := b1.lt
    clear hb b0 hrow
    by_cases hlt : k < m
    · have x0 : wr.cell? ⟨w.heap.size + 1, 0, none⟩ = some (.slice a k c) := b1.cell 0
      have hle : decide ((k : Int) + 1 ≤ (m : Int)) = true := by simp; omega
      clear b1
      go_upto_region 7 with fail
      refine Code.wp_mono NoPanic.imp ?_
      refine wp_region_B (S := fun W_ => W_.cell? ⟨w.heap.size + 1, 0, none⟩ = some (.slice a k c)) [8] (by kernel_rfl) x0 (fun hHeld => ?_)
      refine tB 0 (.pointer (some ⟨w.heap.size + 1, 0, none⟩)) [1, 6, 7, 8] rfl hHeld ?_
      try simp only [Act.put, List.getElem_toArray, List.getElem_cons_zero, List.setIfInBounds_toArray, List.set_cons_zero, List.set_cons_succ]
      refine tB 1 (.slice a k c) [6, 7, 8] rfl hHeld ?_
      try simp only [Act.put, List.getElem_toArray, List.getElem_cons_succ, List.getElem_cons_zero, List.setIfInBounds_toArray, List.set_cons_zero, List.set_cons_succ]
      refine tB 2 (.int .i64 ((k : Int) + 1)) [4, 5, 6, 7, 8] rfl hHeld ?_
      try simp only [Act.put, List.getElem_toArray, List.getElem_cons_succ, List.getElem_cons_zero, List.setIfInBounds_toArray, List.set_cons_zero, List.set_cons_succ]
      refine tB 3 (.int .i64 (m : Int)) [4, 5, 6, 7, 8] rfl hHeld ?_
      try simp only [Act.put, List.getElem_toArray, List.getElem_cons_succ, List.getElem_cons_zero, List.setIfInBounds_toArray, List.set_cons_zero, List.set_cons_succ]
      refine oB 4 rfl (fun KC hK => ?_)
      go_simp
      refine (specNew_any _ _ _).mono ?_
      rintro e w1 ⟨rfl, hb1⟩
      have HB1 : Hid (Below wr.heap.size wr w1) := ((Below.refl _ _).drew).trans hb1
      rw [newL_in hlt hm5.2]
      have hs1 : wr.heap.size ≤ w1.heap.size := HB1.out.size
      obtain ⟨x, hx⟩ : ∃ x, x = nwR ((k : Int) + 1) (m : Int) := ⟨_, rfl⟩
      rw [← hx]
      have HXX := hide hx
      rw [show (nrL x).toArray = #[.int .i64 x.nu, .int .i64 x.of, .bool x.up, .int .i64 x.sp, .int .i64 x.sk, .slice none 0 0, .int .i64 x.dp, .int .i64 x.dk, .slice none 0 0, .slice none 0 0, .slice none 0 0, .bool x.ld, .bool x.ty, .int .i64 x.ba, .slice none 0 0, .slice none 0 0, .slice none 0 0, .int .i64 x.hd] from rfl]
      clear hb1 hx
      refine hK.out _ _ (fun _ => by rw [HB1.out.cell hwl]; exact x0) (fun hHeld => ?_)
      replace hHeld := hHeld (by decide)
      clear hK
      try simp only [Act.put, List.getElem_toArray, List.getElem_cons_succ, List.getElem_cons_zero, List.setIfInBounds_toArray, List.set_cons_zero, List.set_cons_succ]
      refine oB 5 rfl (fun KC hK => ?_)
      go_simp
      obtain ⟨y2, hy⟩ : ∃ y, y = w1.alloc (.cells #[.int .i64 x.nu, .int .i64 x.of, .bool x.up, .int .i64 x.sp, .int .i64 x.sk, .slice none 0 0, .int .i64 x.dp, .int .i64 x.dk, .slice none 0 0, .slice none 0 0, .slice none 0 0, .bool x.ld, .bool x.ty, .int .i64 x.ba, .slice none 0 0, .slice none 0 0, .slice none 0 0, .int .i64 x.hd] 61) := ⟨_, rfl⟩
      have hb2 : Below w1.heap.size w1 y2 := by rw [hy]; exact one_al _ _
      have BX : Hid (Box y2 w1.heap.size #[.int .i64 x.nu, .int .i64 x.of, .bool x.up, .int .i64 x.sp, .int .i64 x.sk, .slice none 0 0, .int .i64 x.dp, .int .i64 x.dk, .slice none 0 0, .slice none 0 0, .slice none 0 0, .bool x.ld, .bool x.ty, .int .i64 x.ba, .slice none 0 0, .slice none 0 0, .slice none 0 0, .int .i64 x.hd]) := by unfold Hid; rw [hy]; exact Box.new _ _ _ _ rfl
      rw [← hy]
      clear hy
      have HB2 : Hid (Below wr.heap.size wr y2) := bt HB1.out hb2
      clear hb2
      refine hK.out _ _ (fun _ => by rw [HB2.out.cell hwl]; exact x0) (fun hHeld => ?_)
      replace hHeld := hHeld (by decide)
      clear hK
      try simp only [Act.put, List.getElem_toArray, List.getElem_cons_succ, List.getElem_cons_zero, List.setIfInBounds_toArray, List.set_cons_zero, List.set_cons_succ]
      refine oB 6 rfl (fun KC hK => ?_)
      obtain ⟨v2, y3, hrun, ht, hrow⟩ := run_nr nrL_len (by decide) Tryz.underlying31 infoRrz rfl (L := newP (m : Int) k) (M := [x]) 31 (HN.out.below HB2.out) (some ⟨w1.heap.size, 0, none⟩) 1 1 rfl (fun e => by cases e) (fun ad e j u hu => by injection e with e; subst e; rw [Addr.add_lit, Nat.zero_add, BX.out.cell j]; simpa [flatV, nrL] using hu) (fun u hu => nrL_one x u (by simpa [flatV] using hu)) (by rw [newP_len]; simp; omega) (by decide)
      refine step_append_run rfl (.tmp 16) (.tmp 20) 31 rfl rfl rfl hrun ?_
      have hsz := ht.size
      have hsz2 := HB2.out.size
      have HNX : Hid (NRow nrL 18 y3 (w.heap.size + 2) y3.heap.size v2 (newP (m : Int) (k + 1))) := by
        unfold Hid
        rw [newP_succ, ← HXX.out]
        rcases hrow with h | h
        · exact h.wide (Nat.le_refl _) (by omega)
        · exact h.wide (by omega) (Nat.le_refl _)
      obtain ⟨a2, c2, hv2⟩ := HNX.out.form
      rw [newP_len] at hv2
      subst hv2
      have B1y : Hid (Box y3 (w.heap.size + 1) #[.slice a k c, .slice none 0 0, .slice none 0 0]) := (B1.out.on HB2.out).tch2 ht (Or.inl (by omega))
      have B0y : Hid (Box y3 w.heap.size #[.slice none 0 0, .slice none 0 0, .slice none 0 0]) := (B0.out.on HB2.out).tch2 ht (Or.inl (by omega))
      have HBy : Hid (Below w.heap.size w y3) := (bt HB.out HB2.out).trans (Below.mono (ht.under (by omega)) (by omega))
      have x3 : y3.cell? ⟨w.heap.size + 1, 0, none⟩ = some (.slice a k c) := B1y.out.cell 0
      have gf : ∀ j, y3.frozen? ⟨w.heap.size + 1, j, none⟩ = false := B1y.out.free
      clear hrow hrun ht
      refine hK.out _ _ (fun _ => x3) (fun hHeld => ?_)
      replace hHeld := hHeld (by decide)
      clear hK
      try simp only [Act.put, List.getElem_toArray, List.getElem_cons_succ, List.getElem_cons_zero, List.setIfInBounds_toArray, List.set_cons_zero, List.set_cons_succ]
      refine tB 7 (.pointer (some ⟨w.heap.size + 1, 0, none⟩)) [8] rfl hHeld ?_
      try simp only [Act.put, List.getElem_toArray, List.getElem_cons_succ, List.getElem_cons_zero, List.setIfInBounds_toArray, List.set_cons_zero, List.set_cons_succ]
      refine oB 8 rfl (fun KC hK => ?_)
      go_simp
      refine hK.out _ _ (fun h => absurd (by decide) h) (fun _ => ?_)
      clear hK hHeld x3 gf x0
      try simp only [Act.put, List.getElem_toArray, List.getElem_cons_succ, List.getElem_cons_zero, List.setIfInBounds_toArray, List.set_cons_zero, List.set_cons_succ]
      refine wpAnyB_done (by kernel_rfl) ?_ _
      refine NoPanic.normal ?_
      obtain ⟨y4, hy4, B14, B04, HB4, HN4⟩ : ∃ y, y = y3.setCell ⟨w.heap.size + 1, 0, none⟩ (.slice a2 (k + 1) c2) ∧ Hid (Box y (w.heap.size + 1) #[.slice a2 (k + 1) c2, .slice none 0 0, .slice none 0 0]) ∧ Hid (Box y w.heap.size #[.slice none 0 0, .slice none 0 0, .slice none 0 0]) ∧ Hid (Below w.heap.size w y) ∧ Hid (NRow nrL 18 y (w.heap.size + 2) y.heap.size (.slice a2 (k + 1) c2) (newP (m : Int) (k + 1))) :=
        ⟨_, rfl, B1y.out.set (k := 0) (.slice a2 (k + 1) c2) (by simp), B0y.out.setFar (by simp only []; omega) _, HBy.out.setCell (by simp only []; omega) _, by have := HNX.out.set (p := ⟨w.heap.size + 1, 0, none⟩) (by simp only []; omega) (.slice a2 (k + 1) c2); simpa [Hid, World.setCell] using this⟩
      rw [← hy4]
      clear hy4 B1y B0y HBy HNX
      go_wp2
      go_roundw
      case rel => exact ⟨k + 1, _, by go_num, by omega, HB4.out, B04.out, B14.out, HN4.out⟩
      case measure => simp [intOf]; omega
    · have ek : k = m := by omega
      subst ek
      have g0 := b1.cell
      have g1 := B0.out.cell
      have g2 := B0.out.free
      have hle : decide ((k : Int) + 1 ≤ (k : Int)) = false := by simp; omega
      clear b1
      go_wp2
      obtain ⟨W9, hW9, B9, HB9, HN9⟩ : ∃ W, W = ((wr.setCell ⟨w.heap.size, 0, none⟩ (.slice a k c)).setCell ⟨w.heap.size, 1, none⟩ (.slice none 0 0)).setCell ⟨w.heap.size, 2, none⟩ (.slice none 0 0) ∧ Hid (Box W w.heap.size #[.slice a k c, .slice none 0 0, .slice none 0 0]) ∧ Hid (Below w.heap.size w W) ∧ Hid (NRow nrL 18 W w.heap.size W.heap.size (.slice a k c) (newP (k : Int) k)) :=
        ⟨_, rfl, ((B0.out.set (k := 0) (.slice a k c) (by simp)).set (k := 1) (.slice none 0 0) (by simp)).set (k := 2) (.slice none 0 0) (by simp), ((HB.out.setCell (by simp only []; omega) _).setCell (by simp only []; omega) _).setCell (by simp only []; omega) _, by have := ((HN.out.set (p := ⟨w.heap.size, 0, none⟩) (by simp only []; omega) (.slice a k c)).set (p := ⟨w.heap.size, 1, none⟩) (by simp only []; omega) (.slice none 0 0)).set (p := ⟨w.heap.size, 2, none⟩) (by simp only []; omega) (.slice none 0 0); have h2 := this.wide (lo' := w.heap.size) (by omega) (Nat.le_refl _); simpa [Hid, World.setCell] using h2⟩
      rw [← hW9]
      clear hW9 g0 g1 g2
      have g3 := B9.out.cell
      refine bodyPost_ret (v := .agg #[.slice a k c, .slice none 0 0, .slice none 0 0]) (by simp [results, Tryz.results29, go_sem, g3]) rfl ⟨_, rfl, HB9.out, by rw [HE.out]; exact HN9.out⟩
set_option maxRecDepth 20000 in
set_option maxHeartbeats 8000000 in
theorem implNewW_any (n : Int) (w : World) : Calls Tryz.prog 35 #[.int .i64 n] w fun e w' => ∃ v, e = .returned (.agg #[v, .slice none 0 0, .slice none 0 0]) ∧ Below w.heap.size w w' ∧ NRow nrL 18 w' w.heap.size w'.heap.size v (newW n) := by
  go_enter Tryz.func35, Tryz.ntmps35
  cases q : inB 1 5 n with
  | false =>
    have HO : ∀ o o', Hid (Below w.heap.size w ((w.alloc o).alloc o')) := fun o o' => (one_al w o).alloc (by simp) o'
    have HO1 : ∀ o, Hid (Below w.heap.size w (w.alloc o)) := fun o => one_al w o
    have HE : Hid (newW n = []) := by unfold Hid newW; rw [q]; rfl
    go_wp2_with (go_at_call 33; refine (within_any _ _ _ _).mono ?_; rw [q]; rintro e w' ⟨rfl, rfl⟩)
    refine bodyPost_ret (v := .agg #[.slice none 0 0, .slice none 0 0, .slice none 0 0]) (by simp [results, Tryz.results35, go_sem]) rfl ⟨_, rfl, by first | exact (HO _ _).out | exact (HO1 _).out | (refine Below.setCell ?_ (by simp) _; exact (HO _ _).out), by rw [HE.out]; exact NRow.nil _ _ _ _ _⟩
  | true =>
  obtain ⟨m, hm⟩ : ∃ m : Nat, n = (m : Int) := ⟨n.toNat, by unfold inB at q; have := of_decide_eq_true q; omega⟩
  subst hm
  have hm5 : 1 ≤ m ∧ m ≤ 5 := by unfold inB at q; have := of_decide_eq_true q; omega
  have HE : Hid (newW (m : Int) = newP (m : Int) m) := by unfold Hid newW; rw [q]; simp
  go_upto_region 5 with (go_at_call 33; refine (within_any _ _ _ _).mono ?_; rw [q]; rintro e w' ⟨rfl, rfl⟩)
  obtain ⟨Wa, hWa, HB, B0, B1⟩ : ∃ Wa, Wa = (w.alloc (.cells #[.slice none 0 0, .slice none 0 0, .slice none 0 0] 35)).alloc (.cells #[.slice none 0 0, .slice none 0 0, .slice none 0 0] 35) ∧ Hid (Below w.heap.size w Wa) ∧ Hid (Box Wa w.heap.size #[.slice none 0 0, .slice none 0 0, .slice none 0 0]) ∧ Hid (Box Wa (w.heap.size + 1) #[.slice none 0 0, .slice none 0 0, .slice none 0 0]) := ⟨_, rfl, bt (one_al _ _) (one_al _ _), (Box.new _ _ _ _ rfl).on (one_al _ _), Box.new _ _ _ _ (by simp)⟩
  rw [← hWa]
  clear hWa q
  go_loopw [4] (fun i wr => ∃ (k : Nat) (v : Value), i = .int .i64 ((k : Int) + 1) ∧ k ≤ m ∧ Below w.heap.size w wr ∧ Box wr w.heap.size #[.slice none 0 0, .slice none 0 0, .slice none 0 0] ∧ Box wr (w.heap.size + 1) #[v, .slice none 0 0, .slice none 0 0] ∧ NRow nrL 18 wr (w.heap.size + 2) wr.heap.size v (newP (m : Int) k)) (fun i _ => m + 1 - (intOf i).toNat)
  case atStart => exact ⟨0, _, rfl, by omega, HB.out, B0.out, B1.out, NRow.nil _ _ _ _ _⟩
  case round =>
    clear HB B0 B1
    obtain ⟨k, v, rfl, hk, hb, b0, b1, hrow⟩ := hrel
    have HB := hide hb
    have B0 := hide b0
    have B1 := hide b1
    have HN := hide hrow
    obtain ⟨a, c, hv⟩ := hrow.form
    rw [newP_len] at hv
    subst hv
    have hwl : w.heap.size + 1 < wr.heap.size := b1.lt
    clear hb b0 hrow
    by_cases hlt : k < m
    · have x0 : wr.cell? ⟨w.heap.size + 1, 0, none⟩ = some (.slice a k c) := b1.cell 0
      have hle : decide ((k : Int) + 1 ≤ (m : Int)) = true := by simp; omega
      clear b1
      go_upto_region 7 with fail
      refine Code.wp_mono NoPanic.imp ?_
      refine wp_region_B (S := fun W_ => W_.cell? ⟨w.heap.size + 1, 0, none⟩ = some (.slice a k c)) [8] (by kernel_rfl) x0 (fun hHeld => ?_)
      refine tB 0 (.pointer (some ⟨w.heap.size + 1, 0, none⟩)) [1, 6, 7, 8] rfl hHeld ?_
      try simp only [Act.put, List.getElem_toArray, List.getElem_cons_zero, List.setIfInBounds_toArray, List.set_cons_zero, List.set_cons_succ]
      refine tB 1 (.slice a k c) [6, 7, 8] rfl hHeld ?_
      try simp only [Act.put, List.getElem_toArray, List.getElem_cons_succ, List.getElem_cons_zero, List.setIfInBounds_toArray, List.set_cons_zero, List.set_cons_succ]
      refine tB 2 (.int .i64 ((k : Int) + 1)) [4, 5, 6, 7, 8] rfl hHeld ?_
      try simp only [Act.put, List.getElem_toArray, List.getElem_cons_succ, List.getElem_cons_zero, List.setIfInBounds_toArray, List.set_cons_zero, List.set_cons_succ]
      refine tB 3 (.int .i64 (m : Int)) [4, 5, 6, 7, 8] rfl hHeld ?_
      try simp only [Act.put, List.getElem_toArray, List.getElem_cons_succ, List.getElem_cons_zero, List.setIfInBounds_toArray, List.set_cons_zero, List.set_cons_succ]
      refine oB 4 rfl (fun KC hK => ?_)
      go_simp
      refine (implNew_any _ _ _).mono ?_
      rintro e w1 ⟨rfl, hb1⟩
      have HB1 : Hid (Below wr.heap.size wr w1) := ((Below.refl _ _).drew).trans hb1
      rw [newL_in hlt hm5.2]
      have hs1 : wr.heap.size ≤ w1.heap.size := HB1.out.size
      obtain ⟨x, hx⟩ : ∃ x, x = nwR ((k : Int) + 1) (m : Int) := ⟨_, rfl⟩
      rw [← hx]
      have HXX := hide hx
      rw [show (nrL x).toArray = #[.int .i64 x.nu, .int .i64 x.of, .bool x.up, .int .i64 x.sp, .int .i64 x.sk, .slice none 0 0, .int .i64 x.dp, .int .i64 x.dk, .slice none 0 0, .slice none 0 0, .slice none 0 0, .bool x.ld, .bool x.ty, .int .i64 x.ba, .slice none 0 0, .slice none 0 0, .slice none 0 0, .int .i64 x.hd] from rfl]
      clear hb1 hx
      refine hK.out _ _ (fun _ => by rw [HB1.out.cell hwl]; exact x0) (fun hHeld => ?_)
      replace hHeld := hHeld (by decide)
      clear hK
      try simp only [Act.put, List.getElem_toArray, List.getElem_cons_succ, List.getElem_cons_zero, List.setIfInBounds_toArray, List.set_cons_zero, List.set_cons_succ]
      refine oB 5 rfl (fun KC hK => ?_)
      go_simp
      obtain ⟨y2, hy⟩ : ∃ y, y = w1.alloc (.cells #[.int .i64 x.nu, .int .i64 x.of, .bool x.up, .int .i64 x.sp, .int .i64 x.sk, .slice none 0 0, .int .i64 x.dp, .int .i64 x.dk, .slice none 0 0, .slice none 0 0, .slice none 0 0, .bool x.ld, .bool x.ty, .int .i64 x.ba, .slice none 0 0, .slice none 0 0, .slice none 0 0, .int .i64 x.hd] 61) := ⟨_, rfl⟩
      have hb2 : Below w1.heap.size w1 y2 := by rw [hy]; exact one_al _ _
      have BX : Hid (Box y2 w1.heap.size #[.int .i64 x.nu, .int .i64 x.of, .bool x.up, .int .i64 x.sp, .int .i64 x.sk, .slice none 0 0, .int .i64 x.dp, .int .i64 x.dk, .slice none 0 0, .slice none 0 0, .slice none 0 0, .bool x.ld, .bool x.ty, .int .i64 x.ba, .slice none 0 0, .slice none 0 0, .slice none 0 0, .int .i64 x.hd]) := by unfold Hid; rw [hy]; exact Box.new _ _ _ _ rfl
      rw [← hy]
      clear hy
      have HB2 : Hid (Below wr.heap.size wr y2) := bt HB1.out hb2
      clear hb2
      refine hK.out _ _ (fun _ => by rw [HB2.out.cell hwl]; exact x0) (fun hHeld => ?_)
      replace hHeld := hHeld (by decide)
      clear hK
      try simp only [Act.put, List.getElem_toArray, List.getElem_cons_succ, List.getElem_cons_zero, List.setIfInBounds_toArray, List.set_cons_zero, List.set_cons_succ]
      refine oB 6 rfl (fun KC hK => ?_)
      obtain ⟨v2, y3, hrun, ht, hrow⟩ := run_nr nrL_len (by decide) Tryz.underlying31 infoRrz rfl (L := newP (m : Int) k) (M := [x]) 31 (HN.out.below HB2.out) (some ⟨w1.heap.size, 0, none⟩) 1 1 rfl (fun e => by cases e) (fun ad e j u hu => by injection e with e; subst e; rw [Addr.add_lit, Nat.zero_add, BX.out.cell j]; simpa [flatV, nrL] using hu) (fun u hu => nrL_one x u (by simpa [flatV] using hu)) (by rw [newP_len]; simp; omega) (by decide)
      refine step_append_run rfl (.tmp 15) (.tmp 19) 31 rfl rfl rfl hrun ?_
      have hsz := ht.size
      have hsz2 := HB2.out.size
      have HNX : Hid (NRow nrL 18 y3 (w.heap.size + 2) y3.heap.size v2 (newP (m : Int) (k + 1))) := by
        unfold Hid
        rw [newP_succ, ← HXX.out]
        rcases hrow with h | h
        · exact h.wide (Nat.le_refl _) (by omega)
        · exact h.wide (by omega) (Nat.le_refl _)
      obtain ⟨a2, c2, hv2⟩ := HNX.out.form
      rw [newP_len] at hv2
      subst hv2
      have B1y : Hid (Box y3 (w.heap.size + 1) #[.slice a k c, .slice none 0 0, .slice none 0 0]) := (B1.out.on HB2.out).tch2 ht (Or.inl (by omega))
      have B0y : Hid (Box y3 w.heap.size #[.slice none 0 0, .slice none 0 0, .slice none 0 0]) := (B0.out.on HB2.out).tch2 ht (Or.inl (by omega))
      have HBy : Hid (Below w.heap.size w y3) := (bt HB.out HB2.out).trans (Below.mono (ht.under (by omega)) (by omega))
      have x3 : y3.cell? ⟨w.heap.size + 1, 0, none⟩ = some (.slice a k c) := B1y.out.cell 0
      have gf : ∀ j, y3.frozen? ⟨w.heap.size + 1, j, none⟩ = false := B1y.out.free
      clear hrow hrun ht
      refine hK.out _ _ (fun _ => x3) (fun hHeld => ?_)
      replace hHeld := hHeld (by decide)
      clear hK
      try simp only [Act.put, List.getElem_toArray, List.getElem_cons_succ, List.getElem_cons_zero, List.setIfInBounds_toArray, List.set_cons_zero, List.set_cons_succ]
      refine tB 7 (.pointer (some ⟨w.heap.size + 1, 0, none⟩)) [8] rfl hHeld ?_
      try simp only [Act.put, List.getElem_toArray, List.getElem_cons_succ, List.getElem_cons_zero, List.setIfInBounds_toArray, List.set_cons_zero, List.set_cons_succ]
      refine oB 8 rfl (fun KC hK => ?_)
      go_simp
      refine hK.out _ _ (fun h => absurd (by decide) h) (fun _ => ?_)
      clear hK hHeld x3 gf x0
      try simp only [Act.put, List.getElem_toArray, List.getElem_cons_succ, List.getElem_cons_zero, List.setIfInBounds_toArray, List.set_cons_zero, List.set_cons_succ]
      refine wpAnyB_done (by kernel_rfl) ?_ _
      refine NoPanic.normal ?_
      obtain ⟨y4, hy4, B14, B04, HB4, HN4⟩ : ∃ y, y = y3.setCell ⟨w.heap.size + 1, 0, none⟩ (.slice a2 (k + 1) c2) ∧ Hid (Box y (w.heap.size + 1) #[.slice a2 (k + 1) c2, .slice none 0 0, .slice none 0 0]) ∧ Hid (Box y w.heap.size #[.slice none 0 0, .slice none 0 0, .slice none 0 0]) ∧ Hid (Below w.heap.size w y) ∧ Hid (NRow nrL 18 y (w.heap.size + 2) y.heap.size (.slice a2 (k + 1) c2) (newP (m : Int) (k + 1))) :=
        ⟨_, rfl, B1y.out.set (k := 0) (.slice a2 (k + 1) c2) (by simp), B0y.out.setFar (by simp only []; omega) _, HBy.out.setCell (by simp only []; omega) _, by have := HNX.out.set (p := ⟨w.heap.size + 1, 0, none⟩) (by simp only []; omega) (.slice a2 (k + 1) c2); simpa [Hid, World.setCell] using this⟩
      rw [← hy4]
      clear hy4 B1y B0y HBy HNX
      go_wp2
      go_roundw
      case rel => exact ⟨k + 1, _, by go_num, by omega, HB4.out, B04.out, B14.out, HN4.out⟩
      case measure => simp [intOf]; omega
    · have ek : k = m := by omega
      subst ek
      have g0 := b1.cell
      have g1 := B0.out.cell
      have g2 := B0.out.free
      have hle : decide ((k : Int) + 1 ≤ (k : Int)) = false := by simp; omega
      clear b1
      go_wp2
      obtain ⟨W9, hW9, B9, HB9, HN9⟩ : ∃ W, W = ((wr.setCell ⟨w.heap.size, 0, none⟩ (.slice a k c)).setCell ⟨w.heap.size, 1, none⟩ (.slice none 0 0)).setCell ⟨w.heap.size, 2, none⟩ (.slice none 0 0) ∧ Hid (Box W w.heap.size #[.slice a k c, .slice none 0 0, .slice none 0 0]) ∧ Hid (Below w.heap.size w W) ∧ Hid (NRow nrL 18 W w.heap.size W.heap.size (.slice a k c) (newP (k : Int) k)) :=
        ⟨_, rfl, ((B0.out.set (k := 0) (.slice a k c) (by simp)).set (k := 1) (.slice none 0 0) (by simp)).set (k := 2) (.slice none 0 0) (by simp), ((HB.out.setCell (by simp only []; omega) _).setCell (by simp only []; omega) _).setCell (by simp only []; omega) _, by have := ((HN.out.set (p := ⟨w.heap.size, 0, none⟩) (by simp only []; omega) (.slice a k c)).set (p := ⟨w.heap.size, 1, none⟩) (by simp only []; omega) (.slice none 0 0)).set (p := ⟨w.heap.size, 2, none⟩) (by simp only []; omega) (.slice none 0 0); have h2 := this.wide (lo' := w.heap.size) (by omega) (Nat.le_refl _); simpa [Hid, World.setCell] using h2⟩
      rw [← hW9]
      clear hW9 g0 g1 g2
      have g3 := B9.out.cell
      refine bodyPost_ret (v := .agg #[.slice a k c, .slice none 0 0, .slice none 0 0]) (by simp [results, Tryz.results35, go_sem, g3]) rfl ⟨_, rfl, HB9.out, by rw [HE.out]; exact HN9.out⟩
end Go.Proofs.YtdeammfdkaomlaaGreat
namespace Go.Proofs.YtdeammfdkaomlaaGreat
open Go.RowKit Go.Deep

/-- one of them while it is marked -/
structure NSt (wr : World) (g o : Nat) (v : World) (x : Nr) : Prop where
  tch : Touch g (g + 1) wr v
  oth : ∀ j, j < o ∨ o + 18 ≤ j → v.cell? ⟨g, j, none⟩ = wr.cell? ⟨g, j, none⟩
  rg : v.rangeAt g o (nrL x)
  fz : ∀ j, v.frozen? ⟨g, j, none⟩ = false
theorem NSt.set {wr : World} {g o : Nat} {v : World} {x y : Nr} (h : NSt wr g o v x) {c : Nat} {u : Value} (hc : c < 18) (he : nrL y = (nrL x).set c u) : NSt wr g o (v.setCell ⟨g, o + c, none⟩ u) y := by
  refine ⟨h.tch.trans (Touch.setCell _ _ _ _ _ ⟨Nat.le_refl _, Nat.lt_succ_self _⟩), fun j hj => ?_, fun j w hw => ?_, fun j => by rw [World.frozen?_setCell]; exact h.fz j⟩
  · rw [cell_set_ne0 _ _ _ _ _ (by omega)]
    exact h.oth j hj
  · rw [he] at hw
    by_cases e : j = c
    · subst e
      rw [List.getElem?_set_self (by rw [nrL_len]; exact hc)] at hw
      injection hw with hw
      subst hw
      obtain ⟨w0, hw0⟩ : ∃ w0, (nrL x)[j]? = some w0 := ⟨(nrL x)[j]'(by rw [nrL_len]; exact hc), List.getElem?_eq_getElem _⟩
      exact World.cell?_setCell_same _ _ _ (h.rg j w0 hw0)
    · rw [List.getElem?_set_ne (Ne.symm e)] at hw
      rw [cell_set_ne0 _ _ _ _ _ (by omega)]
      exact h.rg j w hw
theorem FR.turn {wr v : World} {lo hi g cap j : Nat} {L : List Nr} {x : Nr} (h : FR nrL 18 wr lo hi g cap L) (hj : j < L.length) (s : NSt wr g (j * 18) v x) : FR nrL 18 v lo hi g cap (L.set j x) := by
  refine ⟨h.bs, h.up, Nat.lt_of_lt_of_le h.lt s.tch.size, by rw [List.length_set]; exact h.le, h.mx, fun i hi' => ?_, s.fz, fun i u hu => ?_⟩
  · by_cases e : i < j * 18 ∨ j * 18 + 18 ≤ i
    · rw [s.oth i e]; exact h.th i hi'
    · obtain ⟨t, rfl⟩ : ∃ t, i = j * 18 + t := ⟨i - j * 18, by omega⟩
      have := s.rg t _ (List.getElem?_eq_getElem (by rw [nrL_len]; omega))
      rw [this]; rfl
  · have hl : i < (flatV nrL (L.set j x)).length := (List.getElem?_eq_some_iff.1 hu).1
    rw [flatV_len nrL_len, List.length_set] at hl
    obtain ⟨q, t, rfl, ht⟩ : ∃ q t, i = q * 18 + t ∧ t < 18 := ⟨i / 18, i % 18, by omega, by omega⟩
    have hq : q < L.length := by omega
    rw [flatV_get nrL_len _ q t (by rw [List.length_set]; exact hq) ht] at hu
    rw [Nat.zero_add]
    by_cases e : q = j
    · subst e
      rw [List.getElem_set_self] at hu
      exact s.rg t u hu
    · rw [List.getElem_set_ne (Ne.symm e)] at hu
      rw [s.oth _ (by omega)]
      exact h.get nrL_len hq ht hu
def mkNr (K : Int) : Nr := ⟨(K), (K + 1), ((K + 1 + 1) % 3 == 0), (K + 1 + 1 + 1), (K + 1 + 1 + 1 + 1), (K + 1 + 1 + 1 + 1 + 1), (K + 1 + 1 + 1 + 1 + 1 + 1), ((K + 1 + 1 + 1 + 1 + 1 + 1 + 1) % 3 == 0), ((K + 1 + 1 + 1 + 1 + 1 + 1 + 1 + 1) % 3 == 0), (K + 1 + 1 + 1 + 1 + 1 + 1 + 1 + 1 + 1), (K + 1 + 1 + 1 + 1 + 1 + 1 + 1 + 1 + 1 + 1)⟩
def mkP (k : Int) (j : Nat) : List Nr := (List.range j).map fun (i : Nat) => mkNr (k + 11 * (i : Int))
theorem mkP_len (k : Int) (j : Nat) : (mkP k j).length = j := by simp [mkP]
theorem mkP_set (k : Int) (j : Nat) (L : List Nr) (hj : j < L.length) : (mkP k j ++ L.drop j).set j (mkNr (k + 11 * (j : Int))) = mkP k (j + 1) ++ L.drop (j + 1) := by
  rw [List.set_append_right _ _ (by rw [mkP_len]; exact Nat.le_refl _), mkP_len, Nat.sub_self, List.drop_eq_getElem_cons hj, List.set_cons_zero]
  simp [mkP, List.range_succ]
theorem NSt.cells {wr v : World} {g j : Nat} {x : Nr} (h : NSt wr g (j * 18) v x) : v.cell? ⟨g, j * 18, none⟩ = some (.int .i64 x.nu) ∧ v.cell? ⟨g, j * 18 + 1, none⟩ = some (.int .i64 x.of) ∧ v.cell? ⟨g, j * 18 + 2, none⟩ = some (.bool x.up) ∧ v.cell? ⟨g, j * 18 + 3, none⟩ = some (.int .i64 x.sp) ∧ v.cell? ⟨g, j * 18 + 3 + 1, none⟩ = some (.int .i64 x.sk) ∧ v.cell? ⟨g, j * 18 + 3 + 2, none⟩ = some (.slice none 0 0) ∧ v.cell? ⟨g, j * 18 + 6, none⟩ = some (.int .i64 x.dp) ∧ v.cell? ⟨g, j * 18 + 6 + 1, none⟩ = some (.int .i64 x.dk) ∧ v.cell? ⟨g, j * 18 + 6 + 2, none⟩ = some (.slice none 0 0) ∧ v.cell? ⟨g, j * 18 + 9, none⟩ = some (.slice none 0 0) ∧ v.cell? ⟨g, j * 18 + 10, none⟩ = some (.slice none 0 0) ∧ v.cell? ⟨g, j * 18 + 11, none⟩ = some (.bool x.ld) ∧ v.cell? ⟨g, j * 18 + 12, none⟩ = some (.bool x.ty) ∧ v.cell? ⟨g, j * 18 + 13, none⟩ = some (.int .i64 x.ba) ∧ v.cell? ⟨g, j * 18 + 14, none⟩ = some (.slice none 0 0) ∧ v.cell? ⟨g, j * 18 + 15, none⟩ = some (.slice none 0 0) ∧ v.cell? ⟨g, j * 18 + 16, none⟩ = some (.slice none 0 0) ∧ v.cell? ⟨g, j * 18 + 17, none⟩ = some (.int .i64 x.hd) :=
  ⟨h.rg 0 _ rfl, h.rg 1 _ rfl, h.rg 2 _ rfl, h.rg 3 _ rfl, h.rg 4 _ rfl, h.rg 5 _ rfl, h.rg 6 _ rfl, h.rg 7 _ rfl, h.rg 8 _ rfl, h.rg 9 _ rfl, h.rg 10 _ rfl, h.rg 11 _ rfl, h.rg 12 _ rfl, h.rg 13 _ rfl, h.rg 14 _ rfl, h.rg 15 _ rfl, h.rg 16 _ rfl, h.rg 17 _ rfl⟩

set_option maxRecDepth 20000 in
set_option maxHeartbeats 16000000 in
theorem markN_any (lo hi g cap : Nat) (L : List Nr) (k : Int) (w : World) (h : FR nrL 18 w lo hi g cap L) (hn : L.length ≤ 5) (h0 : 0 ≤ k) (hk : k ≤ 1000000000000000000) :
    Calls Tryz.prog 111 #[.slice (some ⟨g, 0, none⟩) L.length cap, .int .i64 k] w fun e w' => e = .returned (.int .i64 (k + 11 * (L.length : Int))) ∧ Touch g (g + 1) w w' ∧ FR nrL 18 w' lo hi g cap (mkP k L.length) := by
  obtain ⟨n, hnn⟩ : ∃ n, n = L.length := ⟨_, rfl⟩
  rw [← hnn] at hn ⊢
  have HNN := hide hnn
  have HF := hide h
  clear hnn h
  go_enter Tryz.func111, Tryz.ntmps111
  go_wp2
  go_loopw [5, 1] (fun i q wr => ∃ j : Nat, i = .int .i64 j ∧ q = .int .i64 (k + 11 * (j : Int)) ∧ j ≤ n ∧ Touch g (g + 1) w wr ∧ FR nrL 18 wr lo hi g cap (mkP k j ++ L.drop j)) (fun i _ _ => n - (intOf i).toNat)
  case atStart => exact ⟨0, rfl, by simp, by omega, Touch.refl _ _ _, by simpa [mkP] using HF.out⟩
  case round =>
    obtain ⟨j, rfl, rfl, hj, ht, hr⟩ := hrel
    have HT := hide ht
    have HR := hide hr
    clear ht hr HF
    by_cases hlt : j < n
    · have hjl : j < L.length := by rw [← HNN.out]; exact hlt
      have hjA : j < (mkP k j ++ L.drop j).length := by rw [List.length_append, mkP_len, List.length_drop]; omega
      obtain ⟨x, hx⟩ : ∃ x, x = (mkP k j ++ L.drop j)[j] := ⟨_, rfl⟩
      obtain ⟨K, hK⟩ : ∃ K, K = k + 11 * (j : Int) := ⟨_, rfl⟩
      rw [← hK]
      have hK0 : 0 ≤ K := by omega
      have hK1 : K ≤ 2000000000000000000 := by omega
      have HK := hide hK
      have HS : Hid (NSt wr g (j * 18) wr x) := ⟨Touch.refl _ _ _, fun _ _ => rfl, fun t u hu => HR.out.get nrL_len hjA (by have := (List.getElem?_eq_some_iff.1 hu).1; rwa [nrL_len] at this) (by rw [← hx]; exact hu), HR.out.fz⟩
      have i0 : (0 : Int) ≤ (j : Int) := by omega
      have i1 : (j : Int) < (n : Int) := by omega
      clear hx hK
      · skip
        obtain ⟨d0, d1, d2, d3, d4, d5, d6, d7, d8, d9, d10, d11, d12, d13, d14, d15, d16, d17⟩ := HS.out.cells
        have fz := HS.out.fz
        go_upto_region 14 with fail
        clear d0 d1 d2 d3 d4 d5 d6 d7 d8 d9 d10 d11 d12 d13 d14 d15 d16 d17 fz
        obtain ⟨v1, hv, HS1⟩ : ∃ v', v' = (((((wr.setCell ⟨g, j * 18, none⟩ (.int .i64 (K))).setCell ⟨g, j * 18 + 1, none⟩ (.int .i64 (K + 1))).setCell ⟨g, j * 18 + 2, none⟩ (.bool ((K + 1 + 1) % 3 == 0))).setCell ⟨g, j * 18 + 3, none⟩ (.int .i64 (K + 1 + 1 + 1))).setCell ⟨g, j * 18 + 3 + 1, none⟩ (.int .i64 (K + 1 + 1 + 1 + 1))) ∧ Hid (NSt wr g (j * 18) v' ⟨(K), (K + 1), ((K + 1 + 1) % 3 == 0), (K + 1 + 1 + 1), (K + 1 + 1 + 1 + 1), x.dp, x.dk, x.ld, x.ty, x.ba, x.hd⟩) := ⟨_, rfl, (NSt.set (c := 4) (y := ⟨(K), (K + 1), ((K + 1 + 1) % 3 == 0), (K + 1 + 1 + 1), (K + 1 + 1 + 1 + 1), x.dp, x.dk, x.ld, x.ty, x.ba, x.hd⟩) (NSt.set (c := 3) (y := ⟨(K), (K + 1), ((K + 1 + 1) % 3 == 0), (K + 1 + 1 + 1), x.sk, x.dp, x.dk, x.ld, x.ty, x.ba, x.hd⟩) (NSt.set (c := 2) (y := ⟨(K), (K + 1), ((K + 1 + 1) % 3 == 0), x.sp, x.sk, x.dp, x.dk, x.ld, x.ty, x.ba, x.hd⟩) (NSt.set (c := 1) (y := ⟨(K), (K + 1), x.up, x.sp, x.sk, x.dp, x.dk, x.ld, x.ty, x.ba, x.hd⟩) (NSt.set (c := 0) (y := ⟨(K), x.of, x.up, x.sp, x.sk, x.dp, x.dk, x.ld, x.ty, x.ba, x.hd⟩) HS.out (by decide) rfl) (by decide) rfl) (by decide) rfl) (by decide) rfl) (by decide) rfl)⟩
        rw [← hv]
        clear hv HS
        obtain ⟨d0, d1, d2, d3, d4, d5, d6, d7, d8, d9, d10, d11, d12, d13, d14, d15, d16, d17⟩ := HS1.out.cells
        have fz := HS1.out.fz
        go_upto_region 15 with (first | (go_at_call 82; refine (markRecSlotS_nil _ _).mono ?_; rintro e v1 ⟨rfl, rfl⟩))
        clear d0 d1 d2 d3 d4 d5 d6 d7 d8 d9 d10 d11 d12 d13 d14 d15 d16 d17 fz
        obtain ⟨d0, d1, d2, d3, d4, d5, d6, d7, d8, d9, d10, d11, d12, d13, d14, d15, d16, d17⟩ := HS1.out.cells
        have fz := HS1.out.fz
        go_upto_region 19 with fail
        clear d0 d1 d2 d3 d4 d5 d6 d7 d8 d9 d10 d11 d12 d13 d14 d15 d16 d17 fz
        obtain ⟨v2, hv, HS2⟩ : ∃ v', v' = ((v1.setCell ⟨g, j * 18 + 6, none⟩ (.int .i64 (K + 1 + 1 + 1 + 1 + 1))).setCell ⟨g, j * 18 + 6 + 1, none⟩ (.int .i64 (K + 1 + 1 + 1 + 1 + 1 + 1))) ∧ Hid (NSt wr g (j * 18) v' ⟨(K), (K + 1), ((K + 1 + 1) % 3 == 0), (K + 1 + 1 + 1), (K + 1 + 1 + 1 + 1), (K + 1 + 1 + 1 + 1 + 1), (K + 1 + 1 + 1 + 1 + 1 + 1), x.ld, x.ty, x.ba, x.hd⟩) := ⟨_, rfl, (NSt.set (c := 7) (y := ⟨(K), (K + 1), ((K + 1 + 1) % 3 == 0), (K + 1 + 1 + 1), (K + 1 + 1 + 1 + 1), (K + 1 + 1 + 1 + 1 + 1), (K + 1 + 1 + 1 + 1 + 1 + 1), x.ld, x.ty, x.ba, x.hd⟩) (NSt.set (c := 6) (y := ⟨(K), (K + 1), ((K + 1 + 1) % 3 == 0), (K + 1 + 1 + 1), (K + 1 + 1 + 1 + 1), (K + 1 + 1 + 1 + 1 + 1), x.dk, x.ld, x.ty, x.ba, x.hd⟩) HS1.out (by decide) rfl) (by decide) rfl)⟩
        rw [← hv]
        clear hv HS1
        obtain ⟨d0, d1, d2, d3, d4, d5, d6, d7, d8, d9, d10, d11, d12, d13, d14, d15, d16, d17⟩ := HS2.out.cells
        have fz := HS2.out.fz
        go_upto_region 22 with (first | (go_at_call 21; refine (markRecMessageS_nil _ _).mono ?_; rintro e v2 ⟨rfl, rfl⟩) | (go_at_call 82; refine (markRecSlotS_nil _ _).mono ?_; rintro e v2 ⟨rfl, rfl⟩) | (go_at_call 80; refine (markStringS_nil _ _).mono ?_; rintro e v2 ⟨rfl, rfl⟩))
        clear d0 d1 d2 d3 d4 d5 d6 d7 d8 d9 d10 d11 d12 d13 d14 d15 d16 d17 fz
        obtain ⟨d0, d1, d2, d3, d4, d5, d6, d7, d8, d9, d10, d11, d12, d13, d14, d15, d16, d17⟩ := HS2.out.cells
        have fz := HS2.out.fz
        go_upto_region 28 with fail
        clear d0 d1 d2 d3 d4 d5 d6 d7 d8 d9 d10 d11 d12 d13 d14 d15 d16 d17 fz
        obtain ⟨v3, hv, HS3⟩ : ∃ v', v' = (((v2.setCell ⟨g, j * 18 + 11, none⟩ (.bool ((K + 1 + 1 + 1 + 1 + 1 + 1 + 1) % 3 == 0))).setCell ⟨g, j * 18 + 12, none⟩ (.bool ((K + 1 + 1 + 1 + 1 + 1 + 1 + 1 + 1) % 3 == 0))).setCell ⟨g, j * 18 + 13, none⟩ (.int .i64 (K + 1 + 1 + 1 + 1 + 1 + 1 + 1 + 1 + 1))) ∧ Hid (NSt wr g (j * 18) v' ⟨(K), (K + 1), ((K + 1 + 1) % 3 == 0), (K + 1 + 1 + 1), (K + 1 + 1 + 1 + 1), (K + 1 + 1 + 1 + 1 + 1), (K + 1 + 1 + 1 + 1 + 1 + 1), ((K + 1 + 1 + 1 + 1 + 1 + 1 + 1) % 3 == 0), ((K + 1 + 1 + 1 + 1 + 1 + 1 + 1 + 1) % 3 == 0), (K + 1 + 1 + 1 + 1 + 1 + 1 + 1 + 1 + 1), x.hd⟩) := ⟨_, rfl, (NSt.set (c := 13) (y := ⟨(K), (K + 1), ((K + 1 + 1) % 3 == 0), (K + 1 + 1 + 1), (K + 1 + 1 + 1 + 1), (K + 1 + 1 + 1 + 1 + 1), (K + 1 + 1 + 1 + 1 + 1 + 1), ((K + 1 + 1 + 1 + 1 + 1 + 1 + 1) % 3 == 0), ((K + 1 + 1 + 1 + 1 + 1 + 1 + 1 + 1) % 3 == 0), (K + 1 + 1 + 1 + 1 + 1 + 1 + 1 + 1 + 1), x.hd⟩) (NSt.set (c := 12) (y := ⟨(K), (K + 1), ((K + 1 + 1) % 3 == 0), (K + 1 + 1 + 1), (K + 1 + 1 + 1 + 1), (K + 1 + 1 + 1 + 1 + 1), (K + 1 + 1 + 1 + 1 + 1 + 1), ((K + 1 + 1 + 1 + 1 + 1 + 1 + 1) % 3 == 0), ((K + 1 + 1 + 1 + 1 + 1 + 1 + 1 + 1) % 3 == 0), x.ba, x.hd⟩) (NSt.set (c := 11) (y := ⟨(K), (K + 1), ((K + 1 + 1) % 3 == 0), (K + 1 + 1 + 1), (K + 1 + 1 + 1 + 1), (K + 1 + 1 + 1 + 1 + 1), (K + 1 + 1 + 1 + 1 + 1 + 1), ((K + 1 + 1 + 1 + 1 + 1 + 1 + 1) % 3 == 0), x.ty, x.ba, x.hd⟩) HS2.out (by decide) rfl) (by decide) rfl) (by decide) rfl)⟩
        rw [← hv]
        clear hv HS2
        obtain ⟨d0, d1, d2, d3, d4, d5, d6, d7, d8, d9, d10, d11, d12, d13, d14, d15, d16, d17⟩ := HS3.out.cells
        have fz := HS3.out.fz
        go_upto_region 31 with (first | (go_at_call 81; refine (markIntS_nil _ _).mono ?_; rintro e v3 ⟨rfl, rfl⟩) | (go_at_call 83; refine (markRecAckS_nil _ _).mono ?_; rintro e v3 ⟨rfl, rfl⟩) | (go_at_call 82; refine (markRecSlotS_nil _ _).mono ?_; rintro e v3 ⟨rfl, rfl⟩))
        clear d0 d1 d2 d3 d4 d5 d6 d7 d8 d9 d10 d11 d12 d13 d14 d15 d16 d17 fz
        obtain ⟨d0, d1, d2, d3, d4, d5, d6, d7, d8, d9, d10, d11, d12, d13, d14, d15, d16, d17⟩ := HS3.out.cells
        have fz := HS3.out.fz
        go_wp2
        clear d0 d1 d2 d3 d4 d5 d6 d7 d8 d9 d10 d11 d12 d13 d14 d15 d16 d17 fz
        obtain ⟨v4, hv, HS4⟩ : ∃ v', v' = (v3.setCell ⟨g, j * 18 + 17, none⟩ (.int .i64 (K + 1 + 1 + 1 + 1 + 1 + 1 + 1 + 1 + 1 + 1))) ∧ Hid (NSt wr g (j * 18) v' ⟨(K), (K + 1), ((K + 1 + 1) % 3 == 0), (K + 1 + 1 + 1), (K + 1 + 1 + 1 + 1), (K + 1 + 1 + 1 + 1 + 1), (K + 1 + 1 + 1 + 1 + 1 + 1), ((K + 1 + 1 + 1 + 1 + 1 + 1 + 1) % 3 == 0), ((K + 1 + 1 + 1 + 1 + 1 + 1 + 1 + 1) % 3 == 0), (K + 1 + 1 + 1 + 1 + 1 + 1 + 1 + 1 + 1), (K + 1 + 1 + 1 + 1 + 1 + 1 + 1 + 1 + 1 + 1)⟩) := ⟨_, rfl, (NSt.set (c := 17) (y := ⟨(K), (K + 1), ((K + 1 + 1) % 3 == 0), (K + 1 + 1 + 1), (K + 1 + 1 + 1 + 1), (K + 1 + 1 + 1 + 1 + 1), (K + 1 + 1 + 1 + 1 + 1 + 1), ((K + 1 + 1 + 1 + 1 + 1 + 1 + 1) % 3 == 0), ((K + 1 + 1 + 1 + 1 + 1 + 1 + 1 + 1) % 3 == 0), (K + 1 + 1 + 1 + 1 + 1 + 1 + 1 + 1 + 1), (K + 1 + 1 + 1 + 1 + 1 + 1 + 1 + 1 + 1 + 1)⟩) HS3.out (by decide) rfl)⟩
        rw [← hv]
        clear hv HS3
        have HE : Hid (FR nrL 18 v4 lo hi g cap (mkP k (j + 1) ++ L.drop (j + 1))) := by unfold Hid; rw [← mkP_set k j L hjl, ← HK.out]; exact HR.out.turn hjA HS4.out
        have HTN := hide (HT.out.trans HS4.out.tch)
        have HQ : Hid ((K + 1 + 1 + 1 + 1 + 1 + 1 + 1 + 1 + 1 + 1 + 1 : Int) = k + 11 * ((j + 1 : Nat) : Int)) := by unfold Hid; have := HK.out; omega
        go_wp2
        go_roundw
        case rel => exact ⟨j + 1, by go_num, congrArg (Value.int .i64) HQ.out, by omega, HTN.out, HE.out⟩
        case measure => simp [intOf]; omega
    · have e : j = n := by omega
      subst e
      have HE : Hid (mkP k j ++ L.drop j = mkP k j) := by unfold Hid; rw [HNN.out]; simp
      go_wp2
      go_ret
      exact ⟨rfl, HT.out, by have := HR.out; rwa [HE.out] at this⟩
end Go.Proofs.YtdeammfdkaomlaaGreat
namespace Go.Proofs.YtdeammfdkaomlaaGreat
open Go.RowKit Go.Deep

theorem mkP_get (k : Int) (n j : Nat) (h : j < (mkP k n).length) : (mkP k n)[j] = mkNr (k + 11 * (j : Int)) := by simp [mkP]
set_option maxRecDepth 20000 in
set_option maxHeartbeats 16000000 in
theorem heldN_any (lo hi g cap n : Nat) (k : Int) (w : World) (h : FR nrL 18 w lo hi g cap (mkP k n)) (hn : n ≤ 5) (h0 : 0 ≤ k) (hk : k ≤ 1000000000000000000) :
    Calls Tryz.prog 115 #[.slice (some ⟨g, 0, none⟩) n cap, .int .i64 k] w fun e w' => e = .returned (.int .i64 (k + 11 * (n : Int))) ∧ w' = w := by
  have HF := hide h
  clear h
  go_enter Tryz.func115, Tryz.ntmps115
  go_wp2
  go_loop [5, 1] (fun i q => ∃ j : Nat, i = .int .i64 j ∧ q = .int .i64 (k + 11 * (j : Int)) ∧ j ≤ n) (fun i _ => n - (intOf i).toNat)
  case atStart => exact ⟨0, rfl, by simp, by omega⟩
  case round =>
    obtain ⟨j, rfl, rfl, hj⟩ := hrel
    by_cases hlt : j < n
    · have hjl : j < (mkP k n).length := by rw [mkP_len]; exact hlt
      obtain ⟨K, hK⟩ : ∃ K, K = k + 11 * (j : Int) := ⟨_, rfl⟩
      have HC : Hid (w.rangeAt g (j * 18) (nrL (mkNr K))) := fun t u hu => HF.out.get nrL_len hjl (by have := (List.getElem?_eq_some_iff.1 hu).1; rwa [nrL_len] at this) (by rw [mkP_get, ← hK]; exact hu)
      rw [← hK]
      have hK0 : 0 ≤ K := by omega
      have hK1 : K ≤ 2000000000000000000 := by omega
      have HK := hide hK
      have i0 : (0 : Int) ≤ (j : Int) := by omega
      have i1 : (j : Int) < (n : Int) := by omega
      clear hK
      have d0 : w.cell? ⟨g, j * 18, none⟩ = some (.int .i64 (K)) := HC.out 0 _ rfl
      have d1 : w.cell? ⟨g, j * 18 + 1, none⟩ = some (.int .i64 (K + 1)) := HC.out 1 _ rfl
      have d2 : w.cell? ⟨g, j * 18 + 2, none⟩ = some (.bool ((K + 1 + 1) % 3 == 0)) := HC.out 2 _ rfl
      have d3 : w.cell? ⟨g, j * 18 + 3, none⟩ = some (.int .i64 (K + 1 + 1 + 1)) := HC.out 3 _ rfl
      have d4 : w.cell? ⟨g, j * 18 + 3 + 1, none⟩ = some (.int .i64 (K + 1 + 1 + 1 + 1)) := HC.out 4 _ rfl
      have d5 : w.cell? ⟨g, j * 18 + 3 + 2, none⟩ = some (.slice none 0 0) := HC.out 5 _ rfl
      have d6 : w.cell? ⟨g, j * 18 + 6, none⟩ = some (.int .i64 (K + 1 + 1 + 1 + 1 + 1)) := HC.out 6 _ rfl
      have d7 : w.cell? ⟨g, j * 18 + 6 + 1, none⟩ = some (.int .i64 (K + 1 + 1 + 1 + 1 + 1 + 1)) := HC.out 7 _ rfl
      have d8 : w.cell? ⟨g, j * 18 + 6 + 2, none⟩ = some (.slice none 0 0) := HC.out 8 _ rfl
      have d9 : w.cell? ⟨g, j * 18 + 9, none⟩ = some (.slice none 0 0) := HC.out 9 _ rfl
      have d10 : w.cell? ⟨g, j * 18 + 10, none⟩ = some (.slice none 0 0) := HC.out 10 _ rfl
      have d11 : w.cell? ⟨g, j * 18 + 11, none⟩ = some (.bool ((K + 1 + 1 + 1 + 1 + 1 + 1 + 1) % 3 == 0)) := HC.out 11 _ rfl
      have d12 : w.cell? ⟨g, j * 18 + 12, none⟩ = some (.bool ((K + 1 + 1 + 1 + 1 + 1 + 1 + 1 + 1) % 3 == 0)) := HC.out 12 _ rfl
      have d13 : w.cell? ⟨g, j * 18 + 13, none⟩ = some (.int .i64 (K + 1 + 1 + 1 + 1 + 1 + 1 + 1 + 1 + 1)) := HC.out 13 _ rfl
      have d14 : w.cell? ⟨g, j * 18 + 14, none⟩ = some (.slice none 0 0) := HC.out 14 _ rfl
      have d15 : w.cell? ⟨g, j * 18 + 15, none⟩ = some (.slice none 0 0) := HC.out 15 _ rfl
      have d16 : w.cell? ⟨g, j * 18 + 16, none⟩ = some (.slice none 0 0) := HC.out 16 _ rfl
      have d17 : w.cell? ⟨g, j * 18 + 17, none⟩ = some (.int .i64 (K + 1 + 1 + 1 + 1 + 1 + 1 + 1 + 1 + 1 + 1)) := HC.out 17 _ rfl
      go_wp2_with (first | (go_at_call 88; refine (heldRecSlotS_nil _ _).mono ?_; rintro e w ⟨rfl, rfl⟩) | (go_at_call 23; refine (heldRecMessageS_nil _ _).mono ?_; rintro e w ⟨rfl, rfl⟩) | (go_at_call 86; refine (heldStringS_nil _ _).mono ?_; rintro e w ⟨rfl, rfl⟩) | (go_at_call 87; refine (heldIntS_nil _ _).mono ?_; rintro e w ⟨rfl, rfl⟩) | (go_at_call 89; refine (heldRecAckS_nil _ _).mono ?_; rintro e w ⟨rfl, rfl⟩))
      have HQ : Hid ((K + 1 + 1 + 1 + 1 + 1 + 1 + 1 + 1 + 1 + 1 + 1 : Int) = k + 11 * ((j + 1 : Nat) : Int)) := by unfold Hid; have := HK.out; omega
      go_round
      case rel => exact ⟨j + 1, by go_num, congrArg (Value.int .i64) HQ.out, by omega⟩
      case measure => simp [intOf]; omega
    · have e : j = n := by omega
      subst e
      go_wp2
      go_ret
      exact ⟨rfl, rfl⟩
set_option maxRecDepth 20000 in
theorem markN_nil (k : Int) (w : World) : Calls Tryz.prog 111 #[.slice none 0 0, .int .i64 k] w fun e w' => e = .returned (.int .i64 k) ∧ w' = w := by
  go_enter Tryz.func111, Tryz.ntmps111
  go_wp2
  go_loop [1, 5] (fun l i => l = .int .i64 k ∧ i = .int .i64 0) (fun _ _ => 0)
  case atStart => exact ⟨rfl, rfl⟩
  case round =>
    obtain ⟨rfl, rfl⟩ := hrel
    go_wp2
    go_ret
    exact ⟨rfl, rfl⟩
set_option maxRecDepth 20000 in
theorem heldN_nil (k : Int) (w : World) : Calls Tryz.prog 115 #[.slice none 0 0, .int .i64 k] w fun e w' => e = .returned (.int .i64 k) ∧ w' = w := by
  go_enter Tryz.func115, Tryz.ntmps115
  go_wp2
  go_loop [1, 5] (fun l i => l = .int .i64 k ∧ i = .int .i64 0) (fun _ _ => 0)
  case atStart => exact ⟨rfl, rfl⟩
  case round =>
    obtain ⟨rfl, rfl⟩ := hrel
    go_wp2
    go_ret
    exact ⟨rfl, rfl⟩
theorem markX_nil (k : Int) (w : World) : Calls Tryz.prog 112 #[.slice none 0 0, .int .i64 k] w fun e w' => e = .returned (.int .i64 k) ∧ w' = w := by
  go_enter Tryz.func112, Tryz.ntmps112
  go_wp2
  go_loop [1, 5] (fun l i => l = .int .i64 k ∧ i = .int .i64 0) (fun _ _ => 0)
  case atStart => exact ⟨rfl, rfl⟩
  case round =>
    obtain ⟨rfl, rfl⟩ := hrel
    go_wp2
    go_ret
    exact ⟨rfl, rfl⟩
theorem heldX_nil (k : Int) (w : World) : Calls Tryz.prog 116 #[.slice none 0 0, .int .i64 k] w fun e w' => e = .returned (.int .i64 k) ∧ w' = w := by
  go_enter Tryz.func116, Tryz.ntmps116
  go_wp2
  go_loop [1, 5] (fun l i => l = .int .i64 k ∧ i = .int .i64 0) (fun _ _ => 0)
  case atStart => exact ⟨rfl, rfl⟩
  case round =>
    obtain ⟨rfl, rfl⟩ := hrel
    go_wp2
    go_ret
    exact ⟨rfl, rfl⟩
theorem markNR_any (lo hi : Nat) (v : Value) (L : List Nr) (k : Int) (w : World) (h : NRow nrL 18 w lo hi v L) (hn : L.length ≤ 5) (h0 : 0 ≤ k) (hk : k ≤ 1000000000000000000) :
    Calls Tryz.prog 111 #[v, .int .i64 k] w fun e w' => e = .returned (.int .i64 (k + 11 * (L.length : Int))) ∧ Touch lo hi w w' ∧ NRow nrL 18 w' lo hi v (mkP k L.length) := by
  rcases h with ⟨rfl, rfl⟩ | ⟨g, cap, rfl, h⟩
  · refine (markN_nil k w).mono ?_
    rintro e w' ⟨rfl, rfl⟩
    exact ⟨by simp, Touch.refl _ _ _, NRow.nil _ _ _ _ _⟩
  · refine (markN_any lo hi g cap L k w h hn h0 hk).mono ?_
    rintro e w' ⟨rfl, ht, hf⟩
    exact ⟨rfl, ht.wide h.bs h.up, Or.inr ⟨g, cap, by rw [mkP_len], hf⟩⟩
theorem heldNR_any (lo hi : Nat) (v : Value) (n : Nat) (k : Int) (w : World) (h : NRow nrL 18 w lo hi v (mkP k n)) (hn : n ≤ 5) (h0 : 0 ≤ k) (hk : k ≤ 1000000000000000000) :
    Calls Tryz.prog 115 #[v, .int .i64 k] w fun e w' => e = .returned (.int .i64 (k + 11 * (n : Int))) ∧ w' = w := by
  rcases h with ⟨rfl, h⟩ | ⟨g, cap, rfl, h⟩
  · have e : n = 0 := by have := congrArg List.length h; rwa [mkP_len] at this
    subst e
    refine (heldN_nil k w).mono ?_
    rintro e w' ⟨rfl, rfl⟩
    exact ⟨by simp, rfl⟩
  · rw [mkP_len]
    exact heldN_any lo hi g cap n k w h hn h0 hk
set_option maxHeartbeats 4000000 in
theorem markW_any (lo hi : Nat) (v : Value) (L : List Nr) (k : Int) (w : World) (h : NRow nrL 18 w lo hi v L) (hh : hi ≤ w.heap.size) (hn : L.length ≤ 5) (h0 : 0 ≤ k) (hk : k ≤ 1000000000000000000) :
    Calls Tryz.prog 42 #[.agg #[v, .slice none 0 0, .slice none 0 0], .int .i64 k] w fun e w' => e = .returned (.int .i64 (k + 11 * (L.length : Int))) ∧ Touch lo hi w w' ∧ NRow nrL 18 w' lo hi v (mkP k L.length) := by
  have HN := hide h
  obtain ⟨a, c, rfl⟩ := h.form
  obtain ⟨n, hnn⟩ : ∃ n, n = L.length := ⟨_, rfl⟩
  rw [← hnn] at HN hn ⊢
  have HNN := hide hnn
  clear h hnn
  go_enter Tryz.func42, Tryz.ntmps42
  go_wp2_with fail
  obtain ⟨Wa, hWa, HB, FX⟩ : ∃ Wa, Wa = w.alloc (.cells #[.slice a n c, .slice none 0 0, .slice none 0 0] 35) ∧ Hid (Below w.heap.size w Wa) ∧ Hid (Box Wa w.heap.size #[.slice a n c, .slice none 0 0, .slice none 0 0]) := ⟨_, rfl, one_al _ _, Box.new _ _ _ _ rfl⟩
  rw [← hWa]
  clear hWa
  refine (markNR_any lo hi _ L k _ (HN.out.below HB.out) (by rw [← HNN.out]; exact hn) h0 hk).mono ?_
  rintro e w1 ⟨rfl, ht, hr⟩
  rw [← HNN.out] at hr ⊢
  have HR := hide hr
  have HT : Hid (Touch lo hi w w1) := (Touch.below HB.out).trans ht
  replace FX := hide (FX.out.tch2 ht (Or.inr hh))
  clear hr ht HN HB
  have g0 := FX.out.cell
  go_wp2_with (first | (go_at_call 21; refine (markRecMessageS_nil _ _).mono ?_; rintro e w1 ⟨rfl, rfl⟩) | (go_at_call 112; refine (markX_nil _ _).mono ?_; rintro e w1 ⟨rfl, rfl⟩))
  go_ret
  exact ⟨rfl, HT.out, HR.out⟩
set_option maxHeartbeats 4000000 in
theorem heldW_any (lo hi : Nat) (v : Value) (n : Nat) (k : Int) (w : World) (h : NRow nrL 18 w lo hi v (mkP k n)) (hn : n ≤ 5) (h0 : 0 ≤ k) (hk : k ≤ 1000000000000000000) :
    Calls Tryz.prog 45 #[.agg #[v, .slice none 0 0, .slice none 0 0], .int .i64 k] w fun e w' => e = .returned (.int .i64 (k + 11 * (n : Int))) ∧ Below w.heap.size w w' := by
  have HN := hide h
  obtain ⟨a, c, hv⟩ := h.form
  rw [mkP_len] at hv
  subst hv
  clear h
  go_enter Tryz.func45, Tryz.ntmps45
  go_wp2_with fail
  obtain ⟨Wa, hWa, HB, FX⟩ : ∃ Wa, Wa = w.alloc (.cells #[.slice a n c, .slice none 0 0, .slice none 0 0] 35) ∧ Hid (Below w.heap.size w Wa) ∧ Hid (Box Wa w.heap.size #[.slice a n c, .slice none 0 0, .slice none 0 0]) := ⟨_, rfl, one_al _ _, Box.new _ _ _ _ rfl⟩
  rw [← hWa]
  clear hWa
  refine (heldNR_any lo hi _ n k _ (HN.out.below HB.out) hn h0 hk).mono ?_
  rintro e Wa ⟨rfl, rfl⟩
  have g0 := FX.out.cell
  have hz : ¬ (k + 11 * (n : Int) < 0) := by omega
  obtain ⟨q, hq⟩ : ∃ q, q = k + 11 * (n : Int) := ⟨_, rfl⟩
  rw [← hq] at hz ⊢
  have HQ := hide hq
  clear hq
  go_wp2_with (first | (go_at_call 23; refine (heldRecMessageS_nil _ _).mono ?_; rintro e Wa ⟨rfl, rfl⟩) | (go_at_call 116; refine (heldX_nil _ _).mono ?_; rintro e Wa ⟨rfl, rfl⟩))
  go_ret
  exact ⟨by show Ending.returned (Value.int .i64 q) = _; rw [HQ.out], HB.out⟩
end Go.Proofs.YtdeammfdkaomlaaGreat
