import Derived.Test.YtpdlcccnlciecaaGreatV10
import Derived.Test.YtpdlcccnlciecaaGreatV13
import Derived.Maps.AppendAt
import Derived.Deep.RegionHeldLaw
namespace Go.Proofs.YtpdlcccnlciecaaGreat
open Go.RowKit Go.Deep

/-- two boxes, above a world -/
abbrev HeldB (W0 : World) (b1 : Nat) (cs1 : Array Value) (b2 : Nat) (cs2 : Array Value) (W : World) : Prop :=
  (∀ i, W.cell? ⟨b1, i, none⟩ = cs1[i]?) ∧ (∀ i, W.cell? ⟨b2, i, none⟩ = cs2[i]?) ∧ Hid (Below W0.heap.size W0 W ∧ b1 < W0.heap.size ∧ b2 < W0.heap.size)
theorem HeldB.drew {W0 : World} {b1 b2 : Nat} {cs1 cs2 : Array Value} (h1 : Box W0 b1 cs1) (h2 : Box W0 b2 cs2) : HeldB W0 b1 cs1 b2 cs2 W0.drew := ⟨h1.cell, h2.cell, (Below.refl _ _).drew, h1.lt, h2.lt⟩
theorem HeldB.on {W0 W W' : World} {b1 b2 : Nat} {cs1 cs2 : Array Value} (h : HeldB W0 b1 cs1 b2 cs2 W) (hb : Below W.heap.size W W') : HeldB W0 b1 cs1 b2 cs2 W' := by
  obtain ⟨h1, h2, h4⟩ := h
  have hz := h4.out.1.size
  have q1 := h4.out.2.1
  have q2 := h4.out.2.2
  exact ⟨fun i => (hb.cell (p := ⟨b1, i, none⟩) (show b1 < W.heap.size by omega)).trans (h1 i), fun i => (hb.cell (p := ⟨b2, i, none⟩) (show b2 < W.heap.size by omega)).trans (h2 i), h4.out.1.trans (hb.mono hz), q1, q2⟩
def cSv (x y : Sv) : Int := cmpS x.nm y.nm
def cBe (x y : Be) : Int := cmpS x.nm y.nm
def cCp (x y : Cp) : Int := orI (cmpS x.se y.se) (cmpI x.nu y.nu)
theorem cSv_neg (x y : Sv) : decide (cSv x y < 0) = rSv x y := by
  unfold cSv rSv
  rw [Bool.eq_iff_iff, decide_eq_true_iff]
  exact cmpS_neg
theorem cBe_neg (x y : Be) : decide (cBe x y < 0) = rBe x y := by
  unfold cBe rBe
  rw [Bool.eq_iff_iff, decide_eq_true_iff]
  exact cmpS_neg
theorem cCp_neg (x y : Cp) : decide (cCp x y < 0) = aheadB x y := by
  unfold cCp aheadB orI
  rw [Bool.eq_iff_iff, decide_eq_true_iff, Bool.or_eq_true, Bool.and_eq_true, decide_eq_true_iff]
  by_cases h : cmpS x.se y.se = 0
  · rw [if_pos h, cmpI_neg]
    have h2 := cmpS_zero.1 h
    rw [h2, less_irrefl]
    simp
  · rw [if_neg h, cmpS_neg]
    have h2 : (x.se.toList == y.se.toList) = false := bytes_ne.2 fun e => h (cmpS_zero.2 e)
    rw [h2]
    simp

set_option maxHeartbeats 1000000 in
theorem cmpSv_any (x y : Sv) (w : World) :
    Calls Tryz.prog 85 #[.agg #[.string x.nm, .int .i64 x.ve, .bool x.gn, .int .i64 x.im, .int .i64 x.wa, .int .i64 x.dn, .int .i64 x.ov, .int .i64 x.nx, .int .i64 x.pr, .int .i64 x.ls, .int .i64 x.ms, .int .i64 x.ld, .int .i64 x.cl], .agg #[.string y.nm, .int .i64 y.ve, .bool y.gn, .int .i64 y.im, .int .i64 y.wa, .int .i64 y.dn, .int .i64 y.ov, .int .i64 y.nx, .int .i64 y.pr, .int .i64 y.ls, .int .i64 y.ms, .int .i64 y.ld, .int .i64 y.cl]] w fun e w' => e = .returned (.int .i64 (cSv x y)) ∧ Below w.heap.size w w' := by
  have HO : ∀ o o', Hid (Below w.heap.size w ((w.alloc o).alloc o')) := fun o o' => (one_al w o).alloc (by simp) o'
  go_enter Tryz.func85, Tryz.ntmps85
  go_wp2_with (go_at_call 114; refine (cmpStr_any _ _ _).mono ?_; rintro e w' ⟨rfl, rfl⟩)
  go_ret
  exact ⟨rfl, (HO _ _).out⟩

set_option maxHeartbeats 1000000 in
theorem cmpBe_any (x y : Be) (w : World) :
    Calls Tryz.prog 89 #[.agg #[.string x.nm, .bool x.dr], .agg #[.string y.nm, .bool y.dr]] w fun e w' => e = .returned (.int .i64 (cBe x y)) ∧ Below w.heap.size w w' := by
  have HO : ∀ o o', Hid (Below w.heap.size w ((w.alloc o).alloc o')) := fun o o' => (one_al w o).alloc (by simp) o'
  go_enter Tryz.func89, Tryz.ntmps89
  go_wp2_with (go_at_call 114; refine (cmpStr_any _ _ _).mono ?_; rintro e w' ⟨rfl, rfl⟩)
  go_ret
  exact ⟨rfl, (HO _ _).out⟩

set_option maxRecDepth 20000 in
set_option maxHeartbeats 2000000 in
theorem cmpCp_any (x y : Cp) (w : World) :
    Calls Tryz.prog 93 #[.agg #[.string x.se, .int .i64 x.nu, .int .i64 x.ve, .int .i64 x.im, .int .i64 x.st, .bool x.en, .string x.be], .agg #[.string y.se, .int .i64 y.nu, .int .i64 y.ve, .int .i64 y.im, .int .i64 y.st, .bool y.en, .string y.be]] w fun e w' => e = .returned (.int .i64 (cCp x y)) ∧ Below w.heap.size w w' := by
  have HO : Hid (orL [cmpS x.se y.se, cmpI x.nu y.nu] = cCp x y) := orL_two _ _
  go_enter Tryz.func93, Tryz.ntmps93
  go_wp2
  generalize hWa : (World.alloc (w.alloc _) _) = Wa
  have HBa : Hid (Below w.heap.size w Wa) := by rw [← hWa]; exact (one_al w _).alloc (by simp) _
  have FA : Hid (Box Wa w.heap.size #[.string x.se, .int .i64 x.nu, .int .i64 x.ve, .int .i64 x.im, .int .i64 x.st, .bool x.en, .string x.be]) := by rw [← hWa]; exact (Box.new _ _ _ _ rfl).on (one_al _ _)
  have FB : Hid (Box Wa (w.heap.size + 1) #[.string y.se, .int .i64 y.nu, .int .i64 y.ve, .int .i64 y.im, .int .i64 y.st, .bool y.en, .string y.be]) := by rw [← hWa]; exact Box.new _ _ _ _ (by simp)
  clear hWa
  go_region_held3 (HeldB Wa w.heap.size #[.string x.se, .int .i64 x.nu, .int .i64 x.ve, .int .i64 x.im, .int .i64 x.st, .bool x.en, .string x.be] (w.heap.size + 1) #[.string y.se, .int .i64 y.nu, .int .i64 y.ve, .int .i64 y.im, .int .i64 y.st, .bool y.en, .string y.be])
    (first
      | (with_reducible exact HeldB.drew FA.out FB.out)
      | (with_reducible exact HeldB.on (by assumption) (Below.refl _ _))
      | (with_reducible exact HeldB.on (by assumption) (one_al _ _))
      | (with_reducible exact HeldB.on (by assumption) (by assumption)))
    (first
      | (go_at_call 114
         refine (cmpStr_any _ _ _).mono ?_
         rintro e w1 ⟨rfl, rfl⟩)
      | (go_at_call 122
         refine (cmpInt_any _ _ _).mono ?_
         rintro e w1 ⟨rfl, rfl⟩)
      | (go_at_call 121
         refine (cmpOr_any _ _ _ _ [cmpS x.se y.se, cmpI x.nu y.nu] (by simp) ?_).mono ?_
         · intro i hi
           have hi' : i = 0 ∨ i = 1 := by simp at hi; omega
           rcases hi' with rfl | rfl <;> simp
         rintro e w2 ⟨rfl, rfl⟩))
  go_wp2
  go_ret
  exact ⟨ret_int HO.out, (HBa.out.trans ((one_al _ _).mono HBa.out.size)).drew⟩

end Go.Proofs.YtpdlcccnlciecaaGreat
namespace Go.Proofs.YtpdlcccnlciecaaGreat
open Go.RowKit Go.Deep

/-- the cells of a list, one thing behind the other -/
def flatV {X : Type} (f : X → List Value) : List X → List Value
  | [] => []
  | x :: r => f x ++ flatV f r
theorem flatV_len {X : Type} {f : X → List Value} {n : Nat} (h : ∀ x, (f x).length = n) : ∀ L : List X, (flatV f L).length = L.length * n
  | [] => by simp [flatV]
  | x :: r => by rw [flatV, List.length_append, h, flatV_len h r, List.length_cons, Nat.succ_mul, Nat.add_comm]
theorem flatV_get {X : Type} {f : X → List Value} {n : Nat} (h : ∀ x, (f x).length = n) : ∀ (L : List X) (i t : Nat) (hi : i < L.length), t < n → (flatV f L)[i * n + t]? = (f L[i])[t]?
  | [], i, t, hi, _ => by simp at hi
  | x :: r, 0, t, hi, ht => by
    rw [flatV, Nat.zero_mul, Nat.zero_add, List.getElem?_append_left (by rw [h]; exact ht)]
    rfl
  | x :: r, i + 1, t, hi, ht => by
    rw [flatV, List.getElem?_append_right (by rw [h, Nat.succ_mul]; omega), h, show (i + 1) * n + t - n = i * n + t by rw [Nat.succ_mul]; omega, flatV_get h r i t (by simpa using hi) ht]
    rfl
theorem flatV_app {X : Type} {f : X → List Value} : ∀ A B : List X, flatV f (A ++ B) = flatV f A ++ flatV f B
  | [], B => rfl
  | x :: r, B => by rw [List.cons_append, flatV, flatV, flatV_app r B, List.append_assoc]
theorem flatV_at {X : Type} {f : X → List Value} {n : Nat} (hn : 0 < n) (h : ∀ x, (f x).length = n) {L : List X} {j : Nat} {u : Value} (hj : (flatV f L)[j]? = some u) : ∃ (hi : j / n < L.length), (f L[j / n])[j % n]? = some u := by
  have hlt : j < L.length * n := by
    rw [← flatV_len h L]
    exact (List.getElem?_eq_some_iff.1 hj).1
  have hi : j / n < L.length := (Nat.div_lt_iff_lt_mul hn).2 hlt
  refine ⟨hi, ?_⟩
  rw [← flatV_get h L (j / n) (j % n) hi (Nat.mod_lt _ hn), Nat.mul_comm, Nat.div_add_mod]
  exact hj
theorem flatV_mem {X : Type} {f : X → List Value} {L : List X} {u : Value} (hu : u ∈ flatV f L) : ∃ x ∈ L, u ∈ f x := by
  induction L with
  | nil => cases hu
  | cons x r ih =>
    rw [flatV, List.mem_append] at hu
    rcases hu with hu | hu
    · exact ⟨x, List.mem_cons_self .., hu⟩
    · obtain ⟨y, hy, h⟩ := ih hu
      exact ⟨y, List.mem_cons_of_mem _ hy, h⟩
/-- what a row that was made anew holds -/
def NewRow (base : Nat) (w' : World) (e : TypeId) (size m : Nat) (v' : Value) (news : List Value) : Prop := (m = 0 ∧ ∃ a c, v' = .slice a 0 c) ∨ w'.ownsRow base e size v' m news
theorem run_append_fresh {P : Program} (w : World) (t ty e : TypeId) (i : TypeInfo) (z : Value) (size bytes : Nat) (ht : P.underlying t = some (.slice e)) (hi : P.info? e = some i) (hz : i.zero = some z)
    (hsize : i.size = size) (hby : i.bytes = bytes) (hzs : z.cells.size = size) (hsz : 0 < size) (g : Addr) (ao : Option Addr) (m c : Nat) (news : List Value) (hl : news.length = m * size) (hm : ao = none → m = 0)
    (hnews : ∀ ad, ao = some ad → ∀ j u, news[j]? = some u → w.cell? (ad.add j) = some u) (h63 : m ≤ maxLen) (hbytes : m * bytes ≤ 140737488355328) :
    ∃ v' w', (Builtin.append_ #[t, t] ty #[.slice (some g) 0 0, .slice ao m c]).run P w = .ok v' w' ∧ NewRow w.heap.size w' e size m v' news ∧ Below w.heap.size w w' := by
  by_cases h0 : m = 0
  · subst h0
    refine ⟨.slice (some g) 0 0, w, ?_, Or.inl ⟨rfl, _, _, rfl⟩, Below.refl _ _⟩
    cases ao with
    | none => simp [Builtin.append_, run_underlying ht, sizeOf, typeInfo, hi, Builtin.lenOf, Builtin.firstCells, storeCells]
    | some ad => simp [Builtin.append_, run_underlying ht, sizeOf, typeInfo, hi, Builtin.lenOf, Builtin.firstCells, loadCells, loadCellsFrom, storeCells]
  · cases ao with
    | none => exact absurd (hm rfl) h0
    | some ad =>
      subst hsize
      subst hby
      have hsmall : m ≤ 9223372036854775807 := by simp only [maxLen] at h63; omega
      have hr := run_append_grow (P := P) w t ty e i z ht hi hz g 0 0 [] (by simp) (fun j u h => by simp at h) ad m c news hl (hnews ad rfl) (by omega) (by omega) (growslice_fits (by omega) (by simpa using hbytes))
      have hge := grownCap_ge w (0 + m) 0 e
      have hcm : grownCap w (0 + m) 0 e ≤ maxLen := grownCap_le_maxLen w (0 + m) 0 e (by simpa using h63)
      refine ⟨_, _, hr, Or.inr ⟨hl, .inr ⟨w.heap.size, _, _, by rw [Nat.zero_add], Nat.le_refl _, heap_alloc_new w.drew _, by simpa using hge, hcm, ?_, ?_⟩⟩, (Below.refl _ _).drew.alloc (Nat.le_refl _) _⟩
      · simp only [Nat.zero_add] at hge ⊢
        simp only [Array.size_append, List.size_toArray, size_zeroCells, hzs, hl, List.length_nil, Nat.zero_add, ← Nat.add_mul]
        congr 1
        omega
      · simp only [Array.toList_append, List.nil_append]
        rw [← hl]
        exact List.take_left
theorem step_append_fresh {P : Program} {w : World} {ops : Array Oper} {o : Oper} {a : Act} {K : Act → World → Prop} {Q : Exit → Act → World → Prop} {E : Prop} (hgd : o.guard = none) (s x : Operand) (t : TypeId)
    (ho : o.op = .call { callee := .builtin .append, args := #[s, x], argTypes := #[t, t] })
    (e : TypeId) (i : TypeInfo) (z : Value) (size bytes : Nat) (ht : P.underlying t = some (.slice e)) (hi : P.info? e = some i) (hz : i.zero = some z)
    (hsize : i.size = size) (hby : i.bytes = bytes) (hzs : z.cells.size = size) (hsz : 0 < size)
    (g : Addr) (hs : a.eval s = .slice (some g) 0 0)
    (ao : Option Addr) (m c : Nat) (news : List Value) (hx : a.eval x = .slice ao m c) (hl : news.length = m * size) (hm : ao = none → m = 0) (hnews : ∀ ad, ao = some ad → ∀ j u, news[j]? = some u → w.cell? (ad.add j) = some u)
    (h63 : m ≤ maxLen) (hbytes : m * bytes ≤ 140737488355328)
    (h : ∀ v' w', NewRow w.heap.size w' e size m v' news → Below w.heap.size w w' → K (a.put o.dst v') w') :
    if Region.wanted o (yielded ops a.tmps) = true then Oper.wp P o a w K Q else E := by
  have hw : Region.wanted o (yielded ops a.tmps) = true := by simp [Region.wanted, hgd]
  rw [if_pos hw]
  obtain ⟨v', w', hr, h2, h3⟩ := run_append_fresh (P := P) w t o.type e i z size bytes ht hi hz hsize hby hzs hsz g ao m c news hl hm hnews h63 hbytes
  unfold Oper.wp execOp
  simp only [ho, resolve, invoke, builtin, Sem.run_bind, Sem.run_pure, Result.andThen_ok, List.map_toArray, List.map_cons, List.map_nil, hs, hx, hr]
  exact h v' w' h2 h3
theorem frozen_none {w : World} {g : Nat} {cur : Array Value} {e : TypeId} (h : w.heap[g]? = some (.cells cur e (0, 0))) (i : Nat) : w.frozen? ⟨g, i, none⟩ = false := by
  simp [World.frozen?, h]
theorem cell_heap {w : World} {g : Nat} {cur : Array Value} {e : TypeId} {fz : Nat × Nat} (h : w.heap[g]? = some (.cells cur e fz)) (i : Nat) : w.cell? ⟨g, i, none⟩ = cur[i]? := by
  simp [World.cell?, h]
def cpL (x : Cp) : List Value := [.string x.se, .int .i64 x.nu, .int .i64 x.ve, .int .i64 x.im, .int .i64 x.st, .bool x.en, .string x.be]
def beL (x : Be) : List Value := [.string x.nm, .bool x.dr]
theorem CpCells.rng {w : World} {b o : Nat} {x : Cp} (h : CpCells w b o x) : w.rangeAt b o (cpL x) := fun j v hv => by
  match j, hv with
  | 0, hv => cases hv; exact h.c0
  | 1, hv => cases hv; exact h.c1
  | 2, hv => cases hv; exact h.c2
  | 3, hv => cases hv; exact h.c3
  | 4, hv => cases hv; exact h.c4
  | 5, hv => cases hv; exact h.c5
  | 6, hv => cases hv; exact h.c6
theorem BeCells.rng {w : World} {b o : Nat} {x : Be} (h : BeCells w b o x) : w.rangeAt b o (beL x) := fun j v hv => by
  match j, hv with
  | 0, hv => cases hv; exact h.c0
  | 1, hv => cases hv; exact h.c1
theorem svL_len (x : Sv) : (svL x).length = 13 := rfl
theorem SvsAt.news {lo : Nat} {w W : World} {ao : Option Addr} {m cap : Nat} {Xl : List Sv} (h : SvsAt lo w (.slice ao m cap) Xl) (hb : Below w.heap.size w W) : ∀ ad, ao = some ad → ∀ j u, (flatV svL Xl)[j]? = some u → W.cell? (ad.add j) = some u := by
  intro ad he j u hj
  subst he
  obtain ⟨hi, hu⟩ := flatV_at (by decide) svL_len hj
  obtain ⟨b, off, h1, hbw, -, hc⟩ := h.full' (by omega)
  cases h1
  have := ((hc (j / 13) hi).2.below hb hbw).rng (j % 13) u hu
  rw [Go.WideShapes.add_plain]
  rw [← this]
  congr 2
  omega
theorem SvsAt.nil {lo : Nat} {w : World} {m cap : Nat} {Xl : List Sv} (h : SvsAt lo w (.slice none m cap) Xl) : Xl.length = 0 := by
  by_cases h0 : 0 < Xl.length
  · obtain ⟨b, off, h1, _⟩ := h.full' h0
    cases h1
  · omega
theorem SvsAt.sizes {lo : Nat} {w : World} {v : Value} {Xl : List Sv} (h : SvsAt lo w v Xl) : ∀ i (hi : i < Xl.length), SvSize Xl[i] := fun i hi => by
  obtain ⟨a, cap, rfl⟩ := h.form
  obtain ⟨b, off, h1, hbw, -, hc⟩ := h.full' (by omega)
  exact (hc i hi).1
theorem NewRow.Svs {base : Nat} {w' : World} {v' : Value} {Xl : List Sv} (h : NewRow base w' 50 13 Xl.length v' (flatV svL Xl)) (hm : Xl.length ≤ maxLen) (hz : ∀ i (hi : i < Xl.length), SvSize Xl[i]) : SvsOwn base w'.heap.size w' v' Xl := by
  by_cases h0 : Xl.length = 0
  · have hx : Xl = [] := List.length_eq_zero_iff.1 h0
    rcases h with ⟨-, a, c, rfl⟩ | ⟨-, ⟨rfl, -⟩ | ⟨g, cap, cur, rfl, -⟩⟩
    · exact Or.inl ⟨_, _, rfl, hx⟩
    · exact Or.inl ⟨_, _, rfl, hx⟩
    · exact Or.inl ⟨_, _, by rw [h0], hx⟩
  · rcases h with ⟨h, -⟩ | ⟨hl, ⟨-, h⟩ | ⟨g, cap, cur, rfl, hbg, hg, hnc, hcm, hcs, htake⟩⟩
    · exact absurd h h0
    · exact absurd h h0
    · have hlt : g < w'.heap.size := (Array.getElem?_eq_some_iff.1 hg).1
      refine Or.inr ⟨g, 0, cap, fun _ => g + 1, fun i => if h : i < Xl.length then Xl[i] else Xl[0]'(by omega), rfl, fun e => h0 (by rw [e]; rfl), hm, hnc, fun i hi => by simp [hi], ⟨hlt, hbg, Nat.lt_succ_self _, hlt, fun _ _ => Nat.le_refl _, hlt, frozen_none hg, fun i hi => ?_⟩⟩
      simp only [hi, dif_pos]
      have hc : ∀ t v, (svL Xl[i])[t]? = some v → w'.cell? ⟨g, 0 + i * 13 + t, none⟩ = some v := fun t v hv => by
        have ht : t < 13 := by have := (List.getElem?_eq_some_iff.1 hv).1; rwa [svL_len] at this
        rw [cell_heap hg, Nat.zero_add, ← Array.getElem?_toList]
        have h1 := flatV_get svL_len Xl i t hi ht
        rw [hv, ← htake, List.getElem?_take] at h1
        split at h1
        · exact h1
        · cases h1
      exact ⟨hz i hi, ⟨hc 0 _ rfl, hc 1 _ rfl, hc 2 _ rfl, hc 3 _ rfl, hc 4 _ rfl, hc 5 _ rfl, hc 6 _ rfl, hc 7 _ rfl, hc 8 _ rfl, hc 9 _ rfl, hc 10 _ rfl, hc 11 _ rfl, hc 12 _ rfl⟩⟩
theorem cpL_len (x : Cp) : (cpL x).length = 7 := rfl
theorem CpsAt.news {lo : Nat} {w W : World} {ao : Option Addr} {m cap : Nat} {Xl : List Cp} (h : CpsAt lo w (.slice ao m cap) Xl) (hb : Below w.heap.size w W) : ∀ ad, ao = some ad → ∀ j u, (flatV cpL Xl)[j]? = some u → W.cell? (ad.add j) = some u := by
  intro ad he j u hj
  subst he
  obtain ⟨hi, hu⟩ := flatV_at (by decide) cpL_len hj
  obtain ⟨b, off, h1, hbw, -, hc⟩ := h.full' (by omega)
  cases h1
  have := ((hc (j / 7) hi).2.below hb hbw).rng (j % 7) u hu
  rw [Go.WideShapes.add_plain]
  rw [← this]
  congr 2
  omega
theorem CpsAt.nil {lo : Nat} {w : World} {m cap : Nat} {Xl : List Cp} (h : CpsAt lo w (.slice none m cap) Xl) : Xl.length = 0 := by
  by_cases h0 : 0 < Xl.length
  · obtain ⟨b, off, h1, _⟩ := h.full' h0
    cases h1
  · omega
theorem CpsAt.sizes {lo : Nat} {w : World} {v : Value} {Xl : List Cp} (h : CpsAt lo w v Xl) : ∀ i (hi : i < Xl.length), CpSize Xl[i] := fun i hi => by
  obtain ⟨a, cap, rfl⟩ := h.form
  obtain ⟨b, off, h1, hbw, -, hc⟩ := h.full' (by omega)
  exact (hc i hi).1
theorem NewRow.Cps {base : Nat} {w' : World} {v' : Value} {Xl : List Cp} (h : NewRow base w' 82 7 Xl.length v' (flatV cpL Xl)) (hm : Xl.length ≤ maxLen) (hz : ∀ i (hi : i < Xl.length), CpSize Xl[i]) : CpsOwn base w'.heap.size w' v' Xl := by
  by_cases h0 : Xl.length = 0
  · have hx : Xl = [] := List.length_eq_zero_iff.1 h0
    rcases h with ⟨-, a, c, rfl⟩ | ⟨-, ⟨rfl, -⟩ | ⟨g, cap, cur, rfl, -⟩⟩
    · exact Or.inl ⟨_, _, rfl, hx⟩
    · exact Or.inl ⟨_, _, rfl, hx⟩
    · exact Or.inl ⟨_, _, by rw [h0], hx⟩
  · rcases h with ⟨h, -⟩ | ⟨hl, ⟨-, h⟩ | ⟨g, cap, cur, rfl, hbg, hg, hnc, hcm, hcs, htake⟩⟩
    · exact absurd h h0
    · exact absurd h h0
    · have hlt : g < w'.heap.size := (Array.getElem?_eq_some_iff.1 hg).1
      refine Or.inr ⟨g, 0, cap, fun _ => g + 1, fun i => if h : i < Xl.length then Xl[i] else Xl[0]'(by omega), rfl, fun e => h0 (by rw [e]; rfl), hm, hnc, fun i hi => by simp [hi], ⟨hlt, hbg, Nat.lt_succ_self _, hlt, fun _ _ => Nat.le_refl _, hlt, frozen_none hg, fun i hi => ?_⟩⟩
      simp only [hi, dif_pos]
      have hc : ∀ t v, (cpL Xl[i])[t]? = some v → w'.cell? ⟨g, 0 + i * 7 + t, none⟩ = some v := fun t v hv => by
        have ht : t < 7 := by have := (List.getElem?_eq_some_iff.1 hv).1; rwa [cpL_len] at this
        rw [cell_heap hg, Nat.zero_add, ← Array.getElem?_toList]
        have h1 := flatV_get cpL_len Xl i t hi ht
        rw [hv, ← htake, List.getElem?_take] at h1
        split at h1
        · exact h1
        · cases h1
      exact ⟨hz i hi, ⟨hc 0 _ rfl, hc 1 _ rfl, hc 2 _ rfl, hc 3 _ rfl, hc 4 _ rfl, hc 5 _ rfl, hc 6 _ rfl⟩⟩
theorem beL_len (x : Be) : (beL x).length = 2 := rfl
theorem BesAt.news {lo : Nat} {w W : World} {ao : Option Addr} {m cap : Nat} {Xl : List Be} (h : BesAt lo w (.slice ao m cap) Xl) (hb : Below w.heap.size w W) : ∀ ad, ao = some ad → ∀ j u, (flatV beL Xl)[j]? = some u → W.cell? (ad.add j) = some u := by
  intro ad he j u hj
  subst he
  obtain ⟨hi, hu⟩ := flatV_at (by decide) beL_len hj
  obtain ⟨b, off, h1, hbw, -, hc⟩ := h.full' (by omega)
  cases h1
  have := ((hc (j / 2) hi).2.below hb hbw).rng (j % 2) u hu
  rw [Go.WideShapes.add_plain]
  rw [← this]
  congr 2
  omega
theorem BesAt.nil {lo : Nat} {w : World} {m cap : Nat} {Xl : List Be} (h : BesAt lo w (.slice none m cap) Xl) : Xl.length = 0 := by
  by_cases h0 : 0 < Xl.length
  · obtain ⟨b, off, h1, _⟩ := h.full' h0
    cases h1
  · omega
theorem BesAt.sizes {lo : Nat} {w : World} {v : Value} {Xl : List Be} (h : BesAt lo w v Xl) : ∀ i (hi : i < Xl.length), BeSize Xl[i] := fun i hi => by
  obtain ⟨a, cap, rfl⟩ := h.form
  obtain ⟨b, off, h1, hbw, -, hc⟩ := h.full' (by omega)
  exact (hc i hi).1
theorem NewRow.Bes {base : Nat} {w' : World} {v' : Value} {Xl : List Be} (h : NewRow base w' 80 2 Xl.length v' (flatV beL Xl)) (hm : Xl.length ≤ maxLen) (hz : ∀ i (hi : i < Xl.length), BeSize Xl[i]) : BesOwn base w'.heap.size w' v' Xl := by
  by_cases h0 : Xl.length = 0
  · have hx : Xl = [] := List.length_eq_zero_iff.1 h0
    rcases h with ⟨-, a, c, rfl⟩ | ⟨-, ⟨rfl, -⟩ | ⟨g, cap, cur, rfl, -⟩⟩
    · exact Or.inl ⟨_, _, rfl, hx⟩
    · exact Or.inl ⟨_, _, rfl, hx⟩
    · exact Or.inl ⟨_, _, by rw [h0], hx⟩
  · rcases h with ⟨h, -⟩ | ⟨hl, ⟨-, h⟩ | ⟨g, cap, cur, rfl, hbg, hg, hnc, hcm, hcs, htake⟩⟩
    · exact absurd h h0
    · exact absurd h h0
    · have hlt : g < w'.heap.size := (Array.getElem?_eq_some_iff.1 hg).1
      refine Or.inr ⟨g, 0, cap, fun _ => g + 1, fun i => if h : i < Xl.length then Xl[i] else Xl[0]'(by omega), rfl, fun e => h0 (by rw [e]; rfl), hm, hnc, fun i hi => by simp [hi], ⟨hlt, hbg, Nat.lt_succ_self _, hlt, fun _ _ => Nat.le_refl _, hlt, frozen_none hg, fun i hi => ?_⟩⟩
      simp only [hi, dif_pos]
      have hc : ∀ t v, (beL Xl[i])[t]? = some v → w'.cell? ⟨g, 0 + i * 2 + t, none⟩ = some v := fun t v hv => by
        have ht : t < 2 := by have := (List.getElem?_eq_some_iff.1 hv).1; rwa [beL_len] at this
        rw [cell_heap hg, Nat.zero_add, ← Array.getElem?_toList]
        have h1 := flatV_get beL_len Xl i t hi ht
        rw [hv, ← htake, List.getElem?_take] at h1
        split at h1
        · exact h1
        · cases h1
      exact ⟨hz i hi, ⟨hc 0 _ rfl, hc 1 _ rfl⟩⟩
end Go.Proofs.YtpdlcccnlciecaaGreat
