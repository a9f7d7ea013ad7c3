
import Derived.Test.YtoklnkojacdciaaRN1
import Derived.Test.YtoklnkojacdciaaNR0
import Derived.Test.YtoklnkojacdciaaRB
import Derived.Test.YtoklnkojacdciaaWD7
namespace Go.Proofs.Ytoklnkojacdciaa
open Go.RowKit Go.Deep

theorem step_append_run {P : Program} {w w' : World} {v v1 v2 : Value} {ops : Array Oper} {o : Oper} {a : Act} {K : Act → World → Prop} {Q : Exit → Act → World → Prop} {E : Prop} (hgd : o.guard = none) (s x : Operand) (t : TypeId)
    (ho : o.op = .call { callee := .builtin .append, args := #[s, x], argTypes := #[t, t] }) (hs : a.eval s = v1) (hx : a.eval x = v2) (hr : (Builtin.append_ #[t, t] o.type #[v1, v2]).run P w = .ok v w') (h : K (a.put o.dst v) w') :
    if Region.wanted o (yielded ops a.tmps) = true then Oper.wp P o a w K Q else E := by
  have hw : Region.wanted o (yielded ops a.tmps) = true := by simp [Region.wanted, hgd]
  rw [if_pos hw]
  unfold Oper.wp execOp
  simp only [ho, resolve, invoke, builtin, Sem.run_bind, Sem.run_pure, Result.andThen_ok, List.map_toArray, List.map_cons, List.map_nil, hs, hx, hr]
  exact h
theorem Box.tch2 {w w' : World} {β lo hi : Nat} {cs : Array Value} (h : Box w β cs) (ht : Touch lo hi w w') (ho : β < lo ∨ hi ≤ β) : Box w' β cs :=
  ⟨Nat.lt_of_lt_of_le h.lt ht.size, fun i => (ht.cell (p := ⟨β, i, none⟩) h.lt ho).trans (h.cell i), fun i => (ht.frozen (p := ⟨β, i, none⟩) h.lt ho).trans (h.free i)⟩
/-! recorders with no list in them -/
structure Nr where
  nu : Int
  of : Int
  up : Bool
  sp : Int
  sk : Int
  dp : Int
  dk : Int
  ld : Bool
  ty : Bool
  ba : Int
  hd : Int
def nrL (x : Nr) : List Value := [.int .i64 x.nu, .int .i64 x.of, .bool x.up, .int .i64 x.sp, .int .i64 x.sk, .slice none 0 0, .int .i64 x.dp, .int .i64 x.dk, .slice none 0 0, .slice none 0 0, .slice none 0 0, .bool x.ld, .bool x.ty, .int .i64 x.ba, .slice none 0 0, .slice none 0 0, .slice none 0 0, .int .i64 x.hd]
def nrU (x : Nr) : Rr := ⟨x.nu, x.of, x.up, ⟨x.sp, x.sk, []⟩, ⟨x.dp, x.dk, []⟩, [], [], x.ld, x.ty, x.ba, [], [], [], x.hd⟩
theorem nrL_len (x : Nr) : (nrL x).length = 18 := rfl
theorem nrL_one (x : Nr) : ∀ u ∈ nrL x, u.oneCell' = true := fun u hu => by
  simp only [nrL, List.mem_cons, List.not_mem_nil, or_false] at hu
  rcases hu with h | h | h | h | h | h | h | h | h | h | h | h | h | h | h | h | h | h <;> (rw [h]; rfl)
theorem nr_c (lo : Nat) (w : World) (x : Nr) : RrC lo w (nrL x) (nrU x) :=
  ⟨none, 0, none, 0, none, 0, none, 0, none, 0, none, 0, none, 0, rfl, ⟨Or.inl ⟨_, _, rfl, rfl⟩, Or.inl ⟨_, _, rfl, rfl⟩, Or.inl ⟨_, _, rfl, rfl⟩, Or.inl ⟨_, _, rfl, rfl⟩, Or.inl ⟨_, _, rfl, rfl⟩, Or.inl ⟨_, _, rfl, rfl⟩, Or.inl ⟨_, _, rfl, rfl⟩⟩⟩
theorem NRow.rrs {w : World} {lo hi : Nat} {v : Value} {L : List Nr} (h : NRow nrL 18 w lo hi v L) : RrsAt lo w v (L.map nrU) := by
  rcases h with ⟨h, rfl⟩ | ⟨g, cap, h1, h2⟩
  · exact Or.inl ⟨_, _, h, rfl⟩
  · by_cases e : L = []
    · subst e; exact Or.inl ⟨_, _, h1, rfl⟩
    · refine Or.inr ⟨g, 0, cap, by rw [List.length_map]; exact h1, by simpa using e, by rw [List.length_map]; exact Nat.le_trans h2.le h2.mx, h2.lt, h2.bs, by rw [List.length_map]; exact h2.le, fun i hi => ⟨nrL (L[i]'(by simpa using hi)), fun j v hv => ?_, ?_⟩⟩
      · have hj : j < 18 := (List.getElem?_eq_some_iff.1 hv).1
        have := h2.get nrL_len (i := i) (by simpa using hi) hj hv
        rw [Nat.zero_add]
        exact this
      · rw [List.getElem_map]; exact nr_c _ _ _
def nwR (i n : Int) : Nr := ⟨i, n, true, 0, 0, 0, 0, false, false, 0, 0⟩
def newP (n : Int) (k : Nat) : List Nr := (List.range k).map fun (i : Nat) => nwR ((i : Int) + 1) n
theorem newP_len (n : Int) (k : Nat) : (newP n k).length = k := by simp [newP]
theorem newP_succ (n : Int) (k : Nat) : newP n (k + 1) = newP n k ++ [nwR ((k : Int) + 1) n] := by simp [newP, List.range_succ]
theorem newL_in {k m : Nat} (hk : k < m) (hm : m ≤ 5) : newL ((k : Int) + 1) (m : Int) = nrL (nwR ((k : Int) + 1) (m : Int)) := by
  unfold newL
  rw [if_pos (by unfold newB inB; simp; omega)]
  rfl
theorem infoRrz : (Try.prog.info? 51).map (fun i => (i.zero, i.size, i.bytes)) = some (some (.agg (nwL 0 0 false).toArray), 18, 248) := by kernel_rfl
def newW (n : Int) : List Nr := if inB 1 5 n = true then newP n n.toNat else []

set_option maxRecDepth 20000 in
set_option maxHeartbeats 8000000 in
theorem specNewW_any (n : Int) (w : World) : Calls Try.prog 7 #[.int .i64 n] w fun e w' => ∃ v, e = .returned (.agg #[v, .slice none 0 0, .slice none 0 0]) ∧ Below w.heap.size w w' ∧ NRow nrL 18 w' w.heap.size w'.heap.size v (newW n) := by
  go_enter Try.func7, Try.ntmps7
  cases q : inB 1 5 n with
  | false =>
    have HO : ∀ o o', Hid (Below w.heap.size w ((w.alloc o).alloc o')) := fun o o' => (one_al w o).alloc (by simp) o'
    have HO1 : ∀ o, Hid (Below w.heap.size w (w.alloc o)) := fun o => one_al w o
    have HE : Hid (newW n = []) := by unfold Hid newW; rw [q]; rfl
    go_wp2_with (go_at_call 20; refine (in21_any _ _ _ _).mono ?_; rw [q]; rintro e w' ⟨rfl, rfl⟩)
    refine bodyPost_ret (v := .agg #[.slice none 0 0, .slice none 0 0, .slice none 0 0]) (by simp [results, Try.results7, go_sem]) rfl ⟨_, rfl, by first | exact (HO _ _).out | exact (HO1 _).out | (refine Below.setCell ?_ (by simp) _; exact (HO _ _).out), by rw [HE.out]; exact NRow.nil _ _ _ _ _⟩
  | true =>
  obtain ⟨m, hm⟩ : ∃ m : Nat, n = (m : Int) := ⟨n.toNat, by unfold inB at q; have := of_decide_eq_true q; omega⟩
  subst hm
  have hm5 : 1 ≤ m ∧ m ≤ 5 := by unfold inB at q; have := of_decide_eq_true q; omega
  have HE : Hid (newW (m : Int) = newP (m : Int) m) := by unfold Hid newW; rw [q]; simp
  go_upto_region 5 with (go_at_call 20; refine (in21_any _ _ _ _).mono ?_; rw [q]; rintro e w' ⟨rfl, rfl⟩)
  obtain ⟨Wa, hWa, HB, B0, B1⟩ : ∃ Wa, Wa = (w.alloc (.cells #[.slice none 0 0, .slice none 0 0, .slice none 0 0] 26)).alloc (.cells #[.slice none 0 0, .slice none 0 0, .slice none 0 0] 26) ∧ Hid (Below w.heap.size w Wa) ∧ Hid (Box Wa w.heap.size #[.slice none 0 0, .slice none 0 0, .slice none 0 0]) ∧ Hid (Box Wa (w.heap.size + 1) #[.slice none 0 0, .slice none 0 0, .slice none 0 0]) := ⟨_, rfl, bt (one_al _ _) (one_al _ _), (Box.new _ _ _ _ rfl).on (one_al _ _), Box.new _ _ _ _ (by simp)⟩
  rw [← hWa]
  clear hWa q
  go_loopw [4] (fun i wr => ∃ (k : Nat) (v : Value), i = .int .i64 ((k : Int) + 1) ∧ k ≤ m ∧ Below w.heap.size w wr ∧ Box wr w.heap.size #[.slice none 0 0, .slice none 0 0, .slice none 0 0] ∧ Box wr (w.heap.size + 1) #[v, .slice none 0 0, .slice none 0 0] ∧ NRow nrL 18 wr (w.heap.size + 2) wr.heap.size v (newP (m : Int) k)) (fun i _ => m + 1 - (intOf i).toNat)
  case atStart => exact ⟨0, _, rfl, by omega, HB.out, B0.out, B1.out, NRow.nil _ _ _ _ _⟩
  case round =>
    clear HB B0 B1
    obtain ⟨k, v, rfl, hk, hb, b0, b1, hrow⟩ := hrel
    have HB := hide hb
    have B0 := hide b0
    have B1 := hide b1
    have HN := hide hrow
    obtain ⟨a, c, hv⟩ := hrow.form
    rw [newP_len] at hv
    subst hv
    have hwl : w.heap.size + 1 < wr.heap.size := b1.lt
    clear hb b0 hrow
    by_cases hlt : k < m
    · have x0 : wr.cell? ⟨w.heap.size + 1, 0, none⟩ = some (.slice a k c) := b1.cell 0
      have hle : decide ((k : Int) + 1 ≤ (m : Int)) = true := by simp; omega
      clear b1
      go_upto_region 7 with fail
      refine Code.wp_mono NoPanic.imp ?_
      refine wp_region_B (S := fun W_ => W_.cell? ⟨w.heap.size + 1, 0, none⟩ = some (.slice a k c)) [8] (by kernel_rfl) x0 (fun hHeld => ?_)
      refine tB 0 (.pointer (some ⟨w.heap.size + 1, 0, none⟩)) [1, 6, 7, 8] rfl hHeld ?_
      try simp only [Act.put, List.getElem_toArray, List.getElem_cons_zero, List.setIfInBounds_toArray, List.set_cons_zero, List.set_cons_succ]
      refine tB 1 (.slice a k c) [6, 7, 8] rfl hHeld ?_
      try simp only [Act.put, List.getElem_toArray, List.getElem_cons_succ, List.getElem_cons_zero, List.setIfInBounds_toArray, List.set_cons_zero, List.set_cons_succ]
      refine tB 2 (.int .i64 ((k : Int) + 1)) [4, 5, 6, 7, 8] rfl hHeld ?_
      try simp only [Act.put, List.getElem_toArray, List.getElem_cons_succ, List.getElem_cons_zero, List.setIfInBounds_toArray, List.set_cons_zero, List.set_cons_succ]
      refine tB 3 (.int .i64 (m : Int)) [4, 5, 6, 7, 8] rfl hHeld ?_
      try simp only [Act.put, List.getElem_toArray, List.getElem_cons_succ, List.getElem_cons_zero, List.setIfInBounds_toArray, List.set_cons_zero, List.set_cons_succ]
      refine oB 4 rfl (fun KC hK => ?_)
      go_simp
      refine (specNew_any _ _ _).mono ?_
      rintro e w1 ⟨rfl, hb1⟩
      have HB1 : Hid (Below wr.heap.size wr w1) := ((Below.refl _ _).drew).trans hb1
      rw [newL_in hlt hm5.2]
      have hs1 : wr.heap.size ≤ w1.heap.size := HB1.out.size
      obtain ⟨x, hx⟩ : ∃ x, x = nwR ((k : Int) + 1) (m : Int) := ⟨_, rfl⟩
      rw [← hx]
      have HXX := hide hx
      rw [show (nrL x).toArray = #[.int .i64 x.nu, .int .i64 x.of, .bool x.up, .int .i64 x.sp, .int .i64 x.sk, .slice none 0 0, .int .i64 x.dp, .int .i64 x.dk, .slice none 0 0, .slice none 0 0, .slice none 0 0, .bool x.ld, .bool x.ty, .int .i64 x.ba, .slice none 0 0, .slice none 0 0, .slice none 0 0, .int .i64 x.hd] from rfl]
      clear hb1 hx
      refine hK.out _ _ (fun _ => by rw [HB1.out.cell hwl]; exact x0) (fun hHeld => ?_)
      replace hHeld := hHeld (by decide)
      clear hK
      try simp only [Act.put, List.getElem_toArray, List.getElem_cons_succ, List.getElem_cons_zero, List.setIfInBounds_toArray, List.set_cons_zero, List.set_cons_succ]
      refine oB 5 rfl (fun KC hK => ?_)
      go_simp
      obtain ⟨y2, hy⟩ : ∃ y, y = w1.alloc (.cells #[.int .i64 x.nu, .int .i64 x.of, .bool x.up, .int .i64 x.sp, .int .i64 x.sk, .slice none 0 0, .int .i64 x.dp, .int .i64 x.dk, .slice none 0 0, .slice none 0 0, .slice none 0 0, .bool x.ld, .bool x.ty, .int .i64 x.ba, .slice none 0 0, .slice none 0 0, .slice none 0 0, .int .i64 x.hd] 51) := ⟨_, rfl⟩
      have hb2 : Below w1.heap.size w1 y2 := by rw [hy]; exact one_al _ _
      have BX : Hid (Box y2 w1.heap.size #[.int .i64 x.nu, .int .i64 x.of, .bool x.up, .int .i64 x.sp, .int .i64 x.sk, .slice none 0 0, .int .i64 x.dp, .int .i64 x.dk, .slice none 0 0, .slice none 0 0, .slice none 0 0, .bool x.ld, .bool x.ty, .int .i64 x.ba, .slice none 0 0, .slice none 0 0, .slice none 0 0, .int .i64 x.hd]) := by unfold Hid; rw [hy]; exact Box.new _ _ _ _ rfl
      rw [← hy]
      clear hy
      have HB2 : Hid (Below wr.heap.size wr y2) := bt HB1.out hb2
      clear hb2
      refine hK.out _ _ (fun _ => by rw [HB2.out.cell hwl]; exact x0) (fun hHeld => ?_)
      replace hHeld := hHeld (by decide)
      clear hK
      try simp only [Act.put, List.getElem_toArray, List.getElem_cons_succ, List.getElem_cons_zero, List.setIfInBounds_toArray, List.set_cons_zero, List.set_cons_succ]
      refine oB 6 rfl (fun KC hK => ?_)
      obtain ⟨v2, y3, hrun, ht, hrow⟩ := run_nr nrL_len (by decide) Try.underlying22 infoRrz rfl (L := newP (m : Int) k) (M := [x]) 22 (HN.out.below HB2.out) (some ⟨w1.heap.size, 0, none⟩) 1 1 rfl (fun e => by cases e) (fun ad e j u hu => by injection e with e; subst e; rw [Addr.add_lit, Nat.zero_add, BX.out.cell j]; simpa [flatV, nrL] using hu) (fun u hu => nrL_one x u (by simpa [flatV] using hu)) (by rw [newP_len]; simp; omega) (by decide)
      refine step_append_run rfl (.tmp 16) (.tmp 20) 22 rfl rfl rfl hrun ?_
      have hsz := ht.size
      have hsz2 := HB2.out.size
      have HNX : Hid (NRow nrL 18 y3 (w.heap.size + 2) y3.heap.size v2 (newP (m : Int) (k + 1))) := by
        unfold Hid
        rw [newP_succ, ← HXX.out]
        rcases hrow with h | h
        · exact h.wide (Nat.le_refl _) (by omega)
        · exact h.wide (by omega) (Nat.le_refl _)
      obtain ⟨a2, c2, hv2⟩ := HNX.out.form
      rw [newP_len] at hv2
      subst hv2
      have B1y : Hid (Box y3 (w.heap.size + 1) #[.slice a k c, .slice none 0 0, .slice none 0 0]) := (B1.out.on HB2.out).tch2 ht (Or.inl (by omega))
      have B0y : Hid (Box y3 w.heap.size #[.slice none 0 0, .slice none 0 0, .slice none 0 0]) := (B0.out.on HB2.out).tch2 ht (Or.inl (by omega))
      have HBy : Hid (Below w.heap.size w y3) := (bt HB.out HB2.out).trans (Below.mono (ht.under (by omega)) (by omega))
      have x3 : y3.cell? ⟨w.heap.size + 1, 0, none⟩ = some (.slice a k c) := B1y.out.cell 0
      have gf : ∀ j, y3.frozen? ⟨w.heap.size + 1, j, none⟩ = false := B1y.out.free
      clear hrow hrun ht
      refine hK.out _ _ (fun _ => x3) (fun hHeld => ?_)
      replace hHeld := hHeld (by decide)
      clear hK
      try simp only [Act.put, List.getElem_toArray, List.getElem_cons_succ, List.getElem_cons_zero, List.setIfInBounds_toArray, List.set_cons_zero, List.set_cons_succ]
      refine tB 7 (.pointer (some ⟨w.heap.size + 1, 0, none⟩)) [8] rfl hHeld ?_
      try simp only [Act.put, List.getElem_toArray, List.getElem_cons_succ, List.getElem_cons_zero, List.setIfInBounds_toArray, List.set_cons_zero, List.set_cons_succ]
      refine oB 8 rfl (fun KC hK => ?_)
      go_simp
      refine hK.out _ _ (fun h => absurd (by decide) h) (fun _ => ?_)
      clear hK hHeld x3 gf x0
      try simp only [Act.put, List.getElem_toArray, List.getElem_cons_succ, List.getElem_cons_zero, List.setIfInBounds_toArray, List.set_cons_zero, List.set_cons_succ]
      refine wpAnyB_done (by kernel_rfl) ?_ _
      refine NoPanic.normal ?_
      obtain ⟨y4, hy4, B14, B04, HB4, HN4⟩ : ∃ y, y = y3.setCell ⟨w.heap.size + 1, 0, none⟩ (.slice a2 (k + 1) c2) ∧ Hid (Box y (w.heap.size + 1) #[.slice a2 (k + 1) c2, .slice none 0 0, .slice none 0 0]) ∧ Hid (Box y w.heap.size #[.slice none 0 0, .slice none 0 0, .slice none 0 0]) ∧ Hid (Below w.heap.size w y) ∧ Hid (NRow nrL 18 y (w.heap.size + 2) y.heap.size (.slice a2 (k + 1) c2) (newP (m : Int) (k + 1))) :=
        ⟨_, rfl, B1y.out.set (k := 0) (.slice a2 (k + 1) c2) (by simp), B0y.out.setFar (by simp only []; omega) _, HBy.out.setCell (by simp only []; omega) _, by have := HNX.out.set (p := ⟨w.heap.size + 1, 0, none⟩) (by simp only []; omega) (.slice a2 (k + 1) c2); simpa [Hid, World.setCell] using this⟩
      rw [← hy4]
      clear hy4 B1y B0y HBy HNX
      go_wp2
      go_roundw
      case rel => exact ⟨k + 1, _, by go_num, by omega, HB4.out, B04.out, B14.out, HN4.out⟩
      case measure => simp [intOf]; omega
    · have ek : k = m := by omega
      subst ek
      have g0 := b1.cell
      have g1 := B0.out.cell
      have g2 := B0.out.free
      have hle : decide ((k : Int) + 1 ≤ (k : Int)) = false := by simp; omega
      clear b1
      go_wp2
      obtain ⟨W9, hW9, B9, HB9, HN9⟩ : ∃ W, W = ((wr.setCell ⟨w.heap.size, 0, none⟩ (.slice a k c)).setCell ⟨w.heap.size, 1, none⟩ (.slice none 0 0)).setCell ⟨w.heap.size, 2, none⟩ (.slice none 0 0) ∧ Hid (Box W w.heap.size #[.slice a k c, .slice none 0 0, .slice none 0 0]) ∧ Hid (Below w.heap.size w W) ∧ Hid (NRow nrL 18 W w.heap.size W.heap.size (.slice a k c) (newP (k : Int) k)) :=
        ⟨_, rfl, ((B0.out.set (k := 0) (.slice a k c) (by simp)).set (k := 1) (.slice none 0 0) (by simp)).set (k := 2) (.slice none 0 0) (by simp), ((HB.out.setCell (by simp only []; omega) _).setCell (by simp only []; omega) _).setCell (by simp only []; omega) _, by have := ((HN.out.set (p := ⟨w.heap.size, 0, none⟩) (by simp only []; omega) (.slice a k c)).set (p := ⟨w.heap.size, 1, none⟩) (by simp only []; omega) (.slice none 0 0)).set (p := ⟨w.heap.size, 2, none⟩) (by simp only []; omega) (.slice none 0 0); have h2 := this.wide (lo' := w.heap.size) (by omega) (Nat.le_refl _); simpa [Hid, World.setCell] using h2⟩
      rw [← hW9]
      clear hW9 g0 g1 g2
      have g3 := B9.out.cell
      refine bodyPost_ret (v := .agg #[.slice a k c, .slice none 0 0, .slice none 0 0]) (by simp [results, Try.results7, go_sem, g3]) rfl ⟨_, rfl, HB9.out, by rw [HE.out]; exact HN9.out⟩
set_option maxRecDepth 20000 in
set_option maxHeartbeats 8000000 in
theorem implNewW_any (n : Int) (w : World) : Calls Try.prog 8 #[.int .i64 n] w fun e w' => ∃ v, e = .returned (.agg #[v, .slice none 0 0, .slice none 0 0]) ∧ Below w.heap.size w w' ∧ NRow nrL 18 w' w.heap.size w'.heap.size v (newW n) := by
  go_enter Try.func8, Try.ntmps8
  cases q : inB 1 5 n with
  | false =>
    have HO : ∀ o o', Hid (Below w.heap.size w ((w.alloc o).alloc o')) := fun o o' => (one_al w o).alloc (by simp) o'
    have HO1 : ∀ o, Hid (Below w.heap.size w (w.alloc o)) := fun o => one_al w o
    have HE : Hid (newW n = []) := by unfold Hid newW; rw [q]; rfl
    go_wp2_with (go_at_call 22; refine (within_any _ _ _ _).mono ?_; rw [q]; rintro e w' ⟨rfl, rfl⟩)
    refine bodyPost_ret (v := .agg #[.slice none 0 0, .slice none 0 0, .slice none 0 0]) (by simp [results, Try.results8, go_sem]) rfl ⟨_, rfl, by first | exact (HO _ _).out | exact (HO1 _).out | (refine Below.setCell ?_ (by simp) _; exact (HO _ _).out), by rw [HE.out]; exact NRow.nil _ _ _ _ _⟩
  | true =>
  obtain ⟨m, hm⟩ : ∃ m : Nat, n = (m : Int) := ⟨n.toNat, by unfold inB at q; have := of_decide_eq_true q; omega⟩
  subst hm
  have hm5 : 1 ≤ m ∧ m ≤ 5 := by unfold inB at q; have := of_decide_eq_true q; omega
  have HE : Hid (newW (m : Int) = newP (m : Int) m) := by unfold Hid newW; rw [q]; simp
  go_upto_region 5 with (go_at_call 22; refine (within_any _ _ _ _).mono ?_; rw [q]; rintro e w' ⟨rfl, rfl⟩)
  obtain ⟨Wa, hWa, HB, B0, B1⟩ : ∃ Wa, Wa = (w.alloc (.cells #[.slice none 0 0, .slice none 0 0, .slice none 0 0] 26)).alloc (.cells #[.slice none 0 0, .slice none 0 0, .slice none 0 0] 26) ∧ Hid (Below w.heap.size w Wa) ∧ Hid (Box Wa w.heap.size #[.slice none 0 0, .slice none 0 0, .slice none 0 0]) ∧ Hid (Box Wa (w.heap.size + 1) #[.slice none 0 0, .slice none 0 0, .slice none 0 0]) := ⟨_, rfl, bt (one_al _ _) (one_al _ _), (Box.new _ _ _ _ rfl).on (one_al _ _), Box.new _ _ _ _ (by simp)⟩
  rw [← hWa]
  clear hWa q
  go_loopw [4] (fun i wr => ∃ (k : Nat) (v : Value), i = .int .i64 ((k : Int) + 1) ∧ k ≤ m ∧ Below w.heap.size w wr ∧ Box wr w.heap.size #[.slice none 0 0, .slice none 0 0, .slice none 0 0] ∧ Box wr (w.heap.size + 1) #[v, .slice none 0 0, .slice none 0 0] ∧ NRow nrL 18 wr (w.heap.size + 2) wr.heap.size v (newP (m : Int) k)) (fun i _ => m + 1 - (intOf i).toNat)
  case atStart => exact ⟨0, _, rfl, by omega, HB.out, B0.out, B1.out, NRow.nil _ _ _ _ _⟩
  case round =>
    clear HB B0 B1
    obtain ⟨k, v, rfl, hk, hb, b0, b1, hrow⟩ := hrel
    have HB := hide hb
    have B0 := hide b0
    have B1 := hide b1
    have HN := hide hrow
    obtain ⟨a, c, hv⟩ := hrow.form
    rw [newP_len] at hv
    subst hv
    have hwl : w.heap.size + 1 < wr.heap.size := b1.lt
    clear hb b0 hrow
    by_cases hlt : k < m
    · have x0 : wr.cell? ⟨w.heap.size + 1, 0, none⟩ = some (.slice a k c) := b1.cell 0
      have hle : decide ((k : Int) + 1 ≤ (m : Int)) = true := by simp; omega
      clear b1
      go_upto_region 7 with fail
      refine Code.wp_mono NoPanic.imp ?_
      refine wp_region_B (S := fun W_ => W_.cell? ⟨w.heap.size + 1, 0, none⟩ = some (.slice a k c)) [8] (by kernel_rfl) x0 (fun hHeld => ?_)
      refine tB 0 (.pointer (some ⟨w.heap.size + 1, 0, none⟩)) [1, 6, 7, 8] rfl hHeld ?_
      try simp only [Act.put, List.getElem_toArray, List.getElem_cons_zero, List.setIfInBounds_toArray, List.set_cons_zero, List.set_cons_succ]
      refine tB 1 (.slice a k c) [6, 7, 8] rfl hHeld ?_
      try simp only [Act.put, List.getElem_toArray, List.getElem_cons_succ, List.getElem_cons_zero, List.setIfInBounds_toArray, List.set_cons_zero, List.set_cons_succ]
      refine tB 2 (.int .i64 ((k : Int) + 1)) [4, 5, 6, 7, 8] rfl hHeld ?_
      try simp only [Act.put, List.getElem_toArray, List.getElem_cons_succ, List.getElem_cons_zero, List.setIfInBounds_toArray, List.set_cons_zero, List.set_cons_succ]
      refine tB 3 (.int .i64 (m : Int)) [4, 5, 6, 7, 8] rfl hHeld ?_
      try simp only [Act.put, List.getElem_toArray, List.getElem_cons_succ, List.getElem_cons_zero, List.setIfInBounds_toArray, List.set_cons_zero, List.set_cons_succ]
      refine oB 4 rfl (fun KC hK => ?_)
      go_simp
      refine (implNew_any _ _ _).mono ?_
      rintro e w1 ⟨rfl, hb1⟩
      have HB1 : Hid (Below wr.heap.size wr w1) := ((Below.refl _ _).drew).trans hb1
      rw [newL_in hlt hm5.2]
      have hs1 : wr.heap.size ≤ w1.heap.size := HB1.out.size
      obtain ⟨x, hx⟩ : ∃ x, x = nwR ((k : Int) + 1) (m : Int) := ⟨_, rfl⟩
      rw [← hx]
      have HXX := hide hx
      rw [show (nrL x).toArray = #[.int .i64 x.nu, .int .i64 x.of, .bool x.up, .int .i64 x.sp, .int .i64 x.sk, .slice none 0 0, .int .i64 x.dp, .int .i64 x.dk, .slice none 0 0, .slice none 0 0, .slice none 0 0, .bool x.ld, .bool x.ty, .int .i64 x.ba, .slice none 0 0, .slice none 0 0, .slice none 0 0, .int .i64 x.hd] from rfl]
      clear hb1 hx
      refine hK.out _ _ (fun _ => by rw [HB1.out.cell hwl]; exact x0) (fun hHeld => ?_)
      replace hHeld := hHeld (by decide)
      clear hK
      try simp only [Act.put, List.getElem_toArray, List.getElem_cons_succ, List.getElem_cons_zero, List.setIfInBounds_toArray, List.set_cons_zero, List.set_cons_succ]
      refine oB 5 rfl (fun KC hK => ?_)
      go_simp
      obtain ⟨y2, hy⟩ : ∃ y, y = w1.alloc (.cells #[.int .i64 x.nu, .int .i64 x.of, .bool x.up, .int .i64 x.sp, .int .i64 x.sk, .slice none 0 0, .int .i64 x.dp, .int .i64 x.dk, .slice none 0 0, .slice none 0 0, .slice none 0 0, .bool x.ld, .bool x.ty, .int .i64 x.ba, .slice none 0 0, .slice none 0 0, .slice none 0 0, .int .i64 x.hd] 51) := ⟨_, rfl⟩
      have hb2 : Below w1.heap.size w1 y2 := by rw [hy]; exact one_al _ _
      have BX : Hid (Box y2 w1.heap.size #[.int .i64 x.nu, .int .i64 x.of, .bool x.up, .int .i64 x.sp, .int .i64 x.sk, .slice none 0 0, .int .i64 x.dp, .int .i64 x.dk, .slice none 0 0, .slice none 0 0, .slice none 0 0, .bool x.ld, .bool x.ty, .int .i64 x.ba, .slice none 0 0, .slice none 0 0, .slice none 0 0, .int .i64 x.hd]) := by unfold Hid; rw [hy]; exact Box.new _ _ _ _ rfl
      rw [← hy]
      clear hy
      have HB2 : Hid (Below wr.heap.size wr y2) := bt HB1.out hb2
      clear hb2
      refine hK.out _ _ (fun _ => by rw [HB2.out.cell hwl]; exact x0) (fun hHeld => ?_)
      replace hHeld := hHeld (by decide)
      clear hK
      try simp only [Act.put, List.getElem_toArray, List.getElem_cons_succ, List.getElem_cons_zero, List.setIfInBounds_toArray, List.set_cons_zero, List.set_cons_succ]
      refine oB 6 rfl (fun KC hK => ?_)
      obtain ⟨v2, y3, hrun, ht, hrow⟩ := run_nr nrL_len (by decide) Try.underlying22 infoRrz rfl (L := newP (m : Int) k) (M := [x]) 22 (HN.out.below HB2.out) (some ⟨w1.heap.size, 0, none⟩) 1 1 rfl (fun e => by cases e) (fun ad e j u hu => by injection e with e; subst e; rw [Addr.add_lit, Nat.zero_add, BX.out.cell j]; simpa [flatV, nrL] using hu) (fun u hu => nrL_one x u (by simpa [flatV] using hu)) (by rw [newP_len]; simp; omega) (by decide)
      refine step_append_run rfl (.tmp 15) (.tmp 19) 22 rfl rfl rfl hrun ?_
      have hsz := ht.size
      have hsz2 := HB2.out.size
      have HNX : Hid (NRow nrL 18 y3 (w.heap.size + 2) y3.heap.size v2 (newP (m : Int) (k + 1))) := by
        unfold Hid
        rw [newP_succ, ← HXX.out]
        rcases hrow with h | h
        · exact h.wide (Nat.le_refl _) (by omega)
        · exact h.wide (by omega) (Nat.le_refl _)
      obtain ⟨a2, c2, hv2⟩ := HNX.out.form
      rw [newP_len] at hv2
      subst hv2
      have B1y : Hid (Box y3 (w.heap.size + 1) #[.slice a k c, .slice none 0 0, .slice none 0 0]) := (B1.out.on HB2.out).tch2 ht (Or.inl (by omega))
      have B0y : Hid (Box y3 w.heap.size #[.slice none 0 0, .slice none 0 0, .slice none 0 0]) := (B0.out.on HB2.out).tch2 ht (Or.inl (by omega))
      have HBy : Hid (Below w.heap.size w y3) := (bt HB.out HB2.out).trans (Below.mono (ht.under (by omega)) (by omega))
      have x3 : y3.cell? ⟨w.heap.size + 1, 0, none⟩ = some (.slice a k c) := B1y.out.cell 0
      have gf : ∀ j, y3.frozen? ⟨w.heap.size + 1, j, none⟩ = false := B1y.out.free
      clear hrow hrun ht
      refine hK.out _ _ (fun _ => x3) (fun hHeld => ?_)
      replace hHeld := hHeld (by decide)
      clear hK
      try simp only [Act.put, List.getElem_toArray, List.getElem_cons_succ, List.getElem_cons_zero, List.setIfInBounds_toArray, List.set_cons_zero, List.set_cons_succ]
      refine tB 7 (.pointer (some ⟨w.heap.size + 1, 0, none⟩)) [8] rfl hHeld ?_
      try simp only [Act.put, List.getElem_toArray, List.getElem_cons_succ, List.getElem_cons_zero, List.setIfInBounds_toArray, List.set_cons_zero, List.set_cons_succ]
      refine oB 8 rfl (fun KC hK => ?_)
      go_simp
      refine hK.out _ _ (fun h => absurd (by decide) h) (fun _ => ?_)
      clear hK hHeld x3 gf x0
      try simp only [Act.put, List.getElem_toArray, List.getElem_cons_succ, List.getElem_cons_zero, List.setIfInBounds_toArray, List.set_cons_zero, List.set_cons_succ]
      refine wpAnyB_done (by kernel_rfl) ?_ _
      refine NoPanic.normal ?_
      obtain ⟨y4, hy4, B14, B04, HB4, HN4⟩ : ∃ y, y = y3.setCell ⟨w.heap.size + 1, 0, none⟩ (.slice a2 (k + 1) c2) ∧ Hid (Box y (w.heap.size + 1) #[.slice a2 (k + 1) c2, .slice none 0 0, .slice none 0 0]) ∧ Hid (Box y w.heap.size #[.slice none 0 0, .slice none 0 0, .slice none 0 0]) ∧ Hid (Below w.heap.size w y) ∧ Hid (NRow nrL 18 y (w.heap.size + 2) y.heap.size (.slice a2 (k + 1) c2) (newP (m : Int) (k + 1))) :=
        ⟨_, rfl, B1y.out.set (k := 0) (.slice a2 (k + 1) c2) (by simp), B0y.out.setFar (by simp only []; omega) _, HBy.out.setCell (by simp only []; omega) _, by have := HNX.out.set (p := ⟨w.heap.size + 1, 0, none⟩) (by simp only []; omega) (.slice a2 (k + 1) c2); simpa [Hid, World.setCell] using this⟩
      rw [← hy4]
      clear hy4 B1y B0y HBy HNX
      go_wp2
      go_roundw
      case rel => exact ⟨k + 1, _, by go_num, by omega, HB4.out, B04.out, B14.out, HN4.out⟩
      case measure => simp [intOf]; omega
    · have ek : k = m := by omega
      subst ek
      have g0 := b1.cell
      have g1 := B0.out.cell
      have g2 := B0.out.free
      have hle : decide ((k : Int) + 1 ≤ (k : Int)) = false := by simp; omega
      clear b1
      go_wp2
      obtain ⟨W9, hW9, B9, HB9, HN9⟩ : ∃ W, W = ((wr.setCell ⟨w.heap.size, 0, none⟩ (.slice a k c)).setCell ⟨w.heap.size, 1, none⟩ (.slice none 0 0)).setCell ⟨w.heap.size, 2, none⟩ (.slice none 0 0) ∧ Hid (Box W w.heap.size #[.slice a k c, .slice none 0 0, .slice none 0 0]) ∧ Hid (Below w.heap.size w W) ∧ Hid (NRow nrL 18 W w.heap.size W.heap.size (.slice a k c) (newP (k : Int) k)) :=
        ⟨_, rfl, ((B0.out.set (k := 0) (.slice a k c) (by simp)).set (k := 1) (.slice none 0 0) (by simp)).set (k := 2) (.slice none 0 0) (by simp), ((HB.out.setCell (by simp only []; omega) _).setCell (by simp only []; omega) _).setCell (by simp only []; omega) _, by have := ((HN.out.set (p := ⟨w.heap.size, 0, none⟩) (by simp only []; omega) (.slice a k c)).set (p := ⟨w.heap.size, 1, none⟩) (by simp only []; omega) (.slice none 0 0)).set (p := ⟨w.heap.size, 2, none⟩) (by simp only []; omega) (.slice none 0 0); have h2 := this.wide (lo' := w.heap.size) (by omega) (Nat.le_refl _); simpa [Hid, World.setCell] using h2⟩
      rw [← hW9]
      clear hW9 g0 g1 g2
      have g3 := B9.out.cell
      refine bodyPost_ret (v := .agg #[.slice a k c, .slice none 0 0, .slice none 0 0]) (by simp [results, Try.results8, go_sem, g3]) rfl ⟨_, rfl, HB9.out, by rw [HE.out]; exact HN9.out⟩
end Go.Proofs.Ytoklnkojacdciaa
