import Derived.Test.YtemggnmooiaokaaGreatD17
namespace Go.Proofs.YtemggnmooiaokaaGreat
open Go.RowKit Go.Deep

set_option maxRecDepth 20000 in
set_option maxHeartbeats 8000000 in
theorem markEns_any (lo hi : Nat) (v : Value) (Xl : List En) (k : Int) (w : World) (hv : EnsOwn lo hi w v Xl) (hn : EnsSmall Xl) (h0 : 0 ≤ k) (hk : k ≤ 2000000000000000000) :
    Calls Tryz.prog 38 #[v, .int .i64 k] w fun e w' => e = .returned (.int .i64 (k + (posEn Xl Xl.length : Int))) ∧ Touch lo hi w w' ∧ EnsOwn lo hi w' v (mkEns k Xl) := by
  rcases hv with ⟨a, cap, rfl, rfl⟩ | ⟨b, off, cap, c, X, rfl, hne, hm, hcap, hX, hR⟩
  · go_enter Tryz.func38, Tryz.ntmps38
    go_wp2
    go_loop [5, 1] (fun i q => i = .int .i64 0 ∧ q = .int .i64 k) (fun _ _ => 0)
    case atStart => exact ⟨rfl, rfl⟩
    case round =>
      obtain ⟨rfl, rfl⟩ := hrel
      go_wp2
      go_ret
      exact ⟨by simp [posEn], Touch.refl _ _ _, Or.inl ⟨_, _, rfl, rfl⟩⟩
  · have hlen := hn.1
    have HN := hide hn
    have HX := hide hX
    have HR0 := hide hR
    have HM := hide hm
    have HC := hide hcap
    have HNE := hide hne
    clear hn hX hR hm hcap hne
    go_enter Tryz.func38, Tryz.ntmps38
    go_wp2
    go_loopw [5, 1] (fun i q wr => ∃ j : Nat, i = .int .i64 j ∧ q = .int .i64 (k + (posEn Xl j : Int)) ∧ j ≤ Xl.length ∧ Touch lo hi w wr ∧ EnRow lo hi wr b off Xl.length c (fun i => if i < j then mkEn (k + (posEn Xl i : Int)) (X i) else X i)) (fun i _ _ => Xl.length - (intOf i).toNat)
    case atStart => exact ⟨0, rfl, by simp [posEn], by omega, Touch.refl _ _ _, HR0.out.to (fun i _ => by simp)⟩
    case round =>
      obtain ⟨j, rfl, rfl, hj, ht, hr⟩ := hrel
      have HT := hide ht
      have HR := hide hr
      clear ht hr HR0
      by_cases hlt : j < Xl.length
      · have hpos := posEn_le HN.out (i := j) (by omega)
        have HP := hide (posEn_succ hlt)
        have hone : EnOne b (off + j * 2) (c j) (c (j + 1)) wr (X j) := by
          have := HR.out.row j hlt
          simp only [Nat.lt_irrefl, if_false] at this
          exact this
        have hxj : X j = Xl[j] := HX.out j hlt
        obtain ⟨x, hx⟩ : ∃ x, x = X j := ⟨_, rfl⟩
        rw [← hx] at hone
        obtain ⟨hs, hc⟩ := hone
        have HXJ := hide hxj
        have HXX := hide hx
        obtain ⟨K, hK⟩ : ∃ K, K = k + (posEn Xl j : Int) := ⟨_, rfl⟩
        rw [← hK]
        have hK0 : 0 ≤ K := by omega
        have hK1 : K ≤ 2500000000000000000 := by omega
        have HK := hide hK
        have HBC : Hid (b < c j) := Nat.lt_of_lt_of_le HR.out.bc (HR.out.le (Nat.zero_le _) (by omega))
        have HS : Hid (EnSt wr b (off + j * 2) (c j) (c (j + 1)) wr x) := ⟨Near.refl _ _ _ _ _ _, HBC.out, hc, HR.out.frz, HR.out.lt⟩
        clear hpos hxj hx hs hc hK
        obtain ⟨d0, d1⟩ := HS.out.cells
        have fz := HS.out.frz
        go_wp2
        clear d0 d1 fz
        obtain ⟨v1, hv1, HS1⟩ : ∃ v', v' = ((wr.setCell ⟨b, off + j * 2, none⟩ (.int .i64 (K))).setCell ⟨b, off + j * 2 + 1, none⟩ (.int .i64 (K + 1))) ∧ Hid (EnSt wr b (off + j * 2) (c j) (c (j + 1)) v' ⟨K, K + 1⟩) := ⟨_, rfl, ((HS.out.s0 (K)).s1 (K + 1))⟩
        rw [← hv1]
        clear hv1 HS
        have HW : Hid (wdEn Xl[j] = 2) := by unfold Hid; rw [← HXJ.out, ← HXX.out]; rfl
        have HQ : Hid ((K + 1 + 1 : Int) = k + (posEn Xl (j + 1) : Int)) := by
          have h1 := HP.out
          have h2 := HW.out
          have h3 := HK.out
          unfold Hid
          omega
        have HRN := hide (HR.out.near hlt HS1.out.near (show EnOne b (off + j * 2) (c j) (c (j + 1)) v1 (mkEn K x) from ⟨⟨trivial⟩, HS1.out.cells⟩))
        have HTN := hide (HS1.out.near.wide HR.out.lt (lo' := lo) (hi' := hi) (by have := HBC.out; have := HR.out.low; omega) (Nat.le_trans (HR.out.le (by omega) (Nat.le_refl _)) HR.out.top) ⟨HR.out.low, HR.out.bh⟩)
        go_roundw
        case rel =>
          refine ⟨j + 1, by go_num, congrArg (Value.int .i64) HQ.out, by omega, HT.out.trans HTN.out, HRN.out.to (fun i hi' => ?_)⟩
          by_cases e : i = j
          · subst e
            rw [if_pos rfl, if_pos (by omega), ← HK.out, HXX.out]
          · rw [if_neg e]
            by_cases e2 : i < j
            · rw [if_pos e2, if_pos (by omega)]
            · rw [if_neg e2, if_neg (by omega)]
        case measure => simp [intOf]; omega
      · have e : j = Xl.length := by omega
        subst e
        go_wp2
        go_ret
        refine ⟨rfl, HT.out, Or.inr ⟨b, off, cap, c, fun i => mkEn (k + (posEn Xl i : Int)) (X i), by rw [mkEns_len], ?_, by rw [mkEns_len]; exact HM.out, by rw [mkEns_len]; exact HC.out, fun i h => ?_, ?_⟩⟩
        · intro e
          have := congrArg List.length e
          rw [mkEns_len] at this
          exact HNE.out (List.length_eq_zero_iff.1 (by simpa using this))
        · have h' : i < Xl.length := by rw [mkEns_len] at h; exact h
          rw [mkEns_get _ _ _ _ h', ← HX.out i h']
        · rw [mkEns_len]
          exact HR.out.to (fun i hi' => by rw [if_pos hi'])
end Go.Proofs.YtemggnmooiaokaaGreat
namespace Go.Proofs.YtemggnmooiaokaaGreat
open Go.RowKit Go.Deep

/-- an act -/
structure Ac where
  sv : ByteArray
  sn : Int
  cr : Int
  wa : Int
  cl : Int
  sc : Bool
  es : List En
  dp : Bool
/-- an act in memory -/
structure AcAt (lo : Nat) (w : World) (ev : Value) (A : Ac) : Prop where
  ens : EnsAt lo w ev A.es
  siz : A.sv.size ≤ maxLen
theorem AcAt.below {lo : Nat} {w w' : World} {ev : Value} {A : Ac} (h : AcAt lo w ev A) (hb : Below w.heap.size w w') : AcAt lo w' ev A := ⟨h.ens.below hb, h.siz⟩
theorem AcAt.mono {lo lo' : Nat} {w : World} {ev : Value} {A : Ac} (h : AcAt lo w ev A) (hl : lo' ≤ lo) : AcAt lo' w ev A := ⟨h.ens.mono hl, h.siz⟩
def AcSmall (A : Ac) : Prop := EnsSmall A.es
/-- an act of one's own -/
structure AcOwn (lo hi : Nat) (w : World) (ev : Value) (A : Ac) : Prop where
  ens : EnsOwn lo hi w ev A.es
  siz : A.sv.size ≤ maxLen
theorem AcOwn.at {lo hi : Nat} {w : World} {ev : Value} {A : Ac} (h : AcOwn lo hi w ev A) : AcAt lo w ev A := ⟨h.ens.at, h.siz⟩
theorem AcOwn.below {lo hi : Nat} {w w' : World} {ev : Value} {A : Ac} (h : AcOwn lo hi w ev A) (hb : Below w.heap.size w w') : AcOwn lo hi w' ev A := ⟨h.ens.below hb, h.siz⟩
theorem AcOwn.touch {lo hi lo' hi' : Nat} {w w' : World} {ev : Value} {A : Ac} (h : AcOwn lo hi w ev A) (ht : Touch lo' hi' w w') (ho : hi ≤ lo' ∨ hi' ≤ lo) : AcOwn lo hi w' ev A := ⟨h.ens.touch ht ho, h.siz⟩
theorem EnsOwn.setLow {lo hi : Nat} {w : World} {v : Value} {Xl : List En} (h : EnsOwn lo hi w v Xl) {p : Addr} (hp : p.block < lo) (u : Value) : EnsOwn lo hi (w.setCell p u) v Xl := h.touch (Touch.setCell p.block (p.block + 1) w p u ⟨Nat.le_refl _, Nat.lt_succ_self _⟩) (Or.inr hp)

theorem EnsOwn.wide {lo hi lo' hi' : Nat} {w : World} {v : Value} {Xl : List En} (h : EnsOwn lo hi w v Xl) (h1 : lo' ≤ lo) (h2 : hi ≤ hi') : EnsOwn lo' hi' w v Xl := by
  rcases h with h | ⟨b, off, cap, c, X, e1, e2, e3, e4, e5, ⟨q1, q2, q3, q4, q5, q6, q7, q8⟩⟩
  · exact Or.inl h
  · exact Or.inr ⟨b, off, cap, c, X, e1, e2, e3, e4, e5, ⟨q1, Nat.le_trans h1 q2, q3, Nat.lt_of_lt_of_le q4 h2, q5, Nat.le_trans q6 h2, q7, q8⟩⟩

section
variable (lo : Nat) (ev : Value) (A : Ac) (w : World)

set_option maxRecDepth 20000 in
set_option maxHeartbeats 2000000 in
theorem eqAc_same (lo' : Nat) (ev' : Value) (h : AcAt lo w ev A) (h' : AcAt lo' w ev' A) :
    Calls Tryz.prog 33 #[.agg #[.string A.sv, .int .i64 A.sn, .int .i64 A.cr, .int .i64 A.wa, .int .i64 A.cl, .bool A.sc, ev, .bool A.dp], .agg #[.string A.sv, .int .i64 A.sn, .int .i64 A.cr, .int .i64 A.wa, .int .i64 A.cl, .bool A.sc, ev', .bool A.dp]] w
      fun e w' => e = .returned (.bool true) ∧ Below w.heap.size w w' := by
  have HL := hide h
  have HR := hide h'
  obtain ⟨a0, k0, rfl⟩ := h.ens.form
  obtain ⟨a1, k1, rfl⟩ := h'.ens.form
  clear h h'
  have hr := bytes_refl A.sv
  go_enter Tryz.func33, Tryz.ntmps33
  go_wp2_with fail
  generalize hWa : World.alloc (w.alloc _) _ = Wa
  have HB0 : Hid (Below w.heap.size w Wa) := by rw [← hWa]; exact (one_al w _).alloc (by simp) _
  have FA : Hid (Box Wa w.heap.size #[.string A.sv, .int .i64 A.sn, .int .i64 A.cr, .int .i64 A.wa, .int .i64 A.cl, .bool A.sc, .slice a0 A.es.length k0, .bool A.dp]) := by rw [← hWa]; exact (Box.new _ _ _ _ rfl).on (one_al _ _)
  have FB : Hid (Box Wa (w.heap.size + 1) #[.string A.sv, .int .i64 A.sn, .int .i64 A.cr, .int .i64 A.wa, .int .i64 A.cl, .bool A.sc, .slice a1 A.es.length k1, .bool A.dp]) := by rw [← hWa]; exact Box.new _ _ _ _ (by simp)
  clear hWa
  refine (eqEns_same lo lo' _ _ A.es _ (HL.out.below HB0.out).ens (HR.out.below HB0.out).ens).mono ?_
  rintro e w1 ⟨rfl, hb1⟩
  have HB1 := hide (bt HB0.out hb1)
  have x := (FA.out.on hb1).cell 7
  have y := (FB.out.on hb1).cell 7
  simp at x y
  clear hb1
  go_wp2
  go_ret
  exact ⟨rfl, HB1.out⟩

end
end Go.Proofs.YtemggnmooiaokaaGreat
namespace Go.Proofs.YtemggnmooiaokaaGreat
open Go.RowKit Go.Deep

theorem ownsB_lt {base : Nat} {W : World} {e : TypeId} {sz n : Nat} {v : Value} {cs : List Value} (h : W.ownsRow base e sz v n cs) {g : Nat} (hg : v.ownBlock = some g) : base ≤ g ∧ g < W.heap.size := by
  rcases h.2 with ⟨rfl, -⟩ | ⟨g', cap, cur, rfl, hb, hgc, -⟩
  · cases hg
  · cases hg
    exact ⟨hb, (Array.getElem?_eq_some_iff.1 hgc).1⟩
theorem ownsB_made {base : Nat} (W : World) (g : Nat) (e : TypeId) (sz : Nat) (hg : W.heap.size = g) (hb : base ≤ g) : (W.alloc (.cells #[] e)).ownsRow base e sz (.slice (some ⟨g, 0, none⟩) 0 0) 0 [] := by
  subst hg
  exact World.ownsRow_made (base := base) (e := e) (size := sz) W #[] 0 hb (Nat.zero_le _) (by simp)
theorem ownsB_grown {base : Nat} {e : TypeId} {sz n : Nat} {W w' : World} {v : Value} {cs : List Value} (h : W.ownsRow base e sz v n cs) (hg : W.grownBy w' v.ownBlock) (hb : base ≤ W.heap.size) : Below base W w' :=
  ⟨hg.os, hg.tape, hg.output, hg.size, fun k hk => hg.block k (by omega) fun e => by have := (ownsB_lt h e.symm).1; omega⟩
theorem flatV_take {X : Type} {f : X → List Value} {L : List X} {n j : Nat} {u : Value} (h : (flatV f (L.take n))[j]? = some u) : (flatV f L)[j]? = some u := by
  have e : flatV f L = flatV f (L.take n) ++ flatV f (L.drop n) := by rw [← flatV_app, List.take_append_drop]
  rw [e, List.getElem?_append_left (List.getElem?_eq_some_iff.1 h).1]
  exact h
theorem flatV_drop {X : Type} {f : X → List Value} {s : Nat} (hs : ∀ x, (f x).length = s) {L : List X} {n j : Nat} {u : Value} (hn : n ≤ L.length) (h : (flatV f (L.drop n))[j]? = some u) : (flatV f L)[n * s + j]? = some u := by
  have e : flatV f L = flatV f (L.take n) ++ flatV f (L.drop n) := by rw [← flatV_app, List.take_append_drop]
  have hl : (flatV f (L.take n)).length = n * s := by rw [flatV_len hs, List.length_take, Nat.min_eq_left hn]
  rw [e, List.getElem?_append_right (by omega), hl, show n * s + j - n * s = j by omega]
  exact h
/-- append to a row of one's own, whatever is put behind it -/
theorem run_append_any {P : Program} (w : World) (base : Nat) (t ty e : TypeId) (i : TypeInfo) (z : Value) (size bytes : Nat) (ht : P.underlying t = some (.slice e)) (hi : P.info? e = some i) (hz : i.zero = some z)
    (hsize : i.size = size) (hby : i.bytes = bytes) (hzs : z.cells.size = size) (hsz : 0 < size)
    (v : Value) (n : Nat) (xs : List Value) (hown : w.ownsRow base e size v n xs)
    (ao : Option Addr) (m c : Nat) (news : List Value) (hl : news.length = m * size) (hm : ao = none → m = 0) (hnews : ∀ ad, ao = some ad → ∀ j u, news[j]? = some u → w.cell? (ad.add j) = some u) (h1 : ∀ u ∈ news, u.oneCell' = true)
    (h63 : n + m ≤ maxLen) (hbytes : (n + m) * bytes ≤ 140737488355328) (hbase : base ≤ w.heap.size) :
    ∃ v' w', (Builtin.append_ #[t, t] ty #[v, .slice ao m c]).run P w = .ok v' w' ∧ w'.ownsRow base e size v' (n + m) (xs ++ news) ∧ w.grownBy w' v.ownBlock := by
  cases ao with
  | some ad =>
    obtain ⟨v', w', h2, h3, h4, -, -⟩ := run_append_own_at (P := P) w base t ty e i z size bytes ht hi hz hsize hby hzs hsz v n xs hown ad m c news hl (hnews ad rfl) h1 h63 hbytes hbase
    exact ⟨v', w', h2, h3, h4⟩
  | none =>
    obtain rfl := hm rfl
    have hn : news = [] := List.eq_nil_of_length_eq_zero (by simpa using hl)
    subst hn
    rcases hown.2 with ⟨rfl, rfl⟩ | ⟨g, cap, cur, rfl, hbg, hg, hnc, hcm, hcs, htake⟩
    · refine ⟨.slice none 0 0, w, ?_, by simpa using hown, ⟨rfl, rfl, rfl, Nat.le_refl _, fun _ _ _ => rfl⟩⟩
      simp [Builtin.append_, run_underlying ht, sizeOf, typeInfo, hi, Builtin.lenOf, Builtin.firstCells]
    · refine ⟨.slice (some ⟨g, 0, none⟩) n cap, w, ?_, by simpa using hown, ⟨rfl, rfl, rfl, Nat.le_refl _, fun _ _ _ => rfl⟩⟩
      simp [Builtin.append_, run_underlying ht, sizeOf, typeInfo, hi, Builtin.lenOf, Builtin.firstCells, storeCells, hnc]
theorem step_append_any {P : Program} {w : World} {ops : Array Oper} {o : Oper} {a : Act} {K : Act → World → Prop} {Q : Exit → Act → World → Prop} {E : Prop} (hgd : o.guard = none) (s x : Operand) (t : TypeId)
    (ho : o.op = .call { callee := .builtin .append, args := #[s, x], argTypes := #[t, t] })
    (base : Nat) (e : TypeId) (i : TypeInfo) (z : Value) (size bytes : Nat) (ht : P.underlying t = some (.slice e)) (hi : P.info? e = some i) (hz : i.zero = some z)
    (hsize : i.size = size) (hby : i.bytes = bytes) (hzs : z.cells.size = size) (hsz : 0 < size)
    (v : Value) (n : Nat) (xs : List Value) (hs : a.eval s = v) (hown : w.ownsRow base e size v n xs)
    (ao : Option Addr) (m c : Nat) (news : List Value) (hx : a.eval x = .slice ao m c) (hl : news.length = m * size) (hm : ao = none → m = 0) (hnews : ∀ ad, ao = some ad → ∀ j u, news[j]? = some u → w.cell? (ad.add j) = some u) (h1 : ∀ u ∈ news, u.oneCell' = true)
    (h63 : n + m ≤ maxLen) (hbytes : (n + m) * bytes ≤ 140737488355328) (hbase : base ≤ w.heap.size)
    (h : ∀ v' w', w'.ownsRow base e size v' (n + m) (xs ++ news) → w.grownBy w' v.ownBlock → K (a.put o.dst v') w') :
    if Region.wanted o (yielded ops a.tmps) = true then Oper.wp P o a w K Q else E := by
  have hw : Region.wanted o (yielded ops a.tmps) = true := by simp [Region.wanted, hgd]
  rw [if_pos hw]
  obtain ⟨v', w', hr, h2, h3⟩ := run_append_any (P := P) w base t o.type e i z size bytes ht hi hz hsize hby hzs hsz v n xs hown ao m c news hl hm hnews h1 h63 hbytes hbase
  unfold Oper.wp execOp
  simp only [ho, resolve, invoke, builtin, Sem.run_bind, Sem.run_pure, Result.andThen_ok, List.map_toArray, List.map_cons, List.map_nil, hs, hx, hr]
  exact h v' w' h2 h3
theorem cpL_one (L : List Cp) : ∀ u ∈ flatV cpL L, u.oneCell' = true := fun u hu => by
  obtain ⟨x, -, h⟩ := flatV_mem hu
  unfold cpL at h
  simp only [List.mem_cons, List.not_mem_nil, or_false] at h
  rcases h with rfl | rfl | rfl | rfl | rfl | rfl | rfl <;> rfl
theorem svL_ones (L : List Sv) : ∀ u ∈ flatV svL L, u.oneCell' = true := fun u hu => by
  obtain ⟨x, -, h⟩ := flatV_mem hu
  unfold svL at h
  simp only [List.mem_cons, List.not_mem_nil, or_false] at h
  rcases h with rfl | rfl | rfl | rfl | rfl | rfl | rfl | rfl | rfl | rfl | rfl | rfl | rfl <;> rfl
/-- a part of what a function does, by the way that leads to it -/
def selC : List Bool → Code → Code
  | [], c => c
  | false :: p, .seq a _ => selC p a
  | true :: p, .seq _ b => selC p b
  | false :: p, .cond _ a _ => selC p a
  | true :: p, .cond _ _ b => selC p b
  | _ :: p, .block _ c => selC p c
  | _ :: p, .loop c => selC p c
  | _ :: _, c => c
end Go.Proofs.YtemggnmooiaokaaGreat
