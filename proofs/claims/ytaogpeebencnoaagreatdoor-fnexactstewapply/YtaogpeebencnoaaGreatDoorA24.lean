import Derived.Test.YtaogpeebencnoaaGreatDoorA20
import Derived.Test.YtaogpeebencnoaaGreatDoorA21
import Derived.Test.YtaogpeebencnoaaGreatDoorA23
import Derived.OrdersHeld
import Derived.Deep.RegionHeld
namespace Go.Proofs.YtaogpeebencnoaaGreatDoor
open Go.RowKit Go.Deep

theorem ownsB_lt {base : Nat} {W : World} {e : TypeId} {sz n : Nat} {v : Value} {cs : List Value} (h : W.ownsRow base e sz v n cs) {g : Nat} (hg : v.ownBlock = some g) : base ≤ g ∧ g < W.heap.size := by
  rcases h.2 with ⟨rfl, -⟩ | ⟨g', cap, cur, rfl, hb, hgc, -⟩
  · cases hg
  · cases hg
    exact ⟨hb, (Array.getElem?_eq_some_iff.1 hgc).1⟩
theorem ownsB_made {base : Nat} (W : World) (g : Nat) (e : TypeId) (sz : Nat) (hg : W.heap.size = g) (hb : base ≤ g) : (W.alloc (.cells #[] e)).ownsRow base e sz (.slice (some ⟨g, 0, none⟩) 0 0) 0 [] := by
  subst hg
  exact World.ownsRow_made (base := base) (e := e) (size := sz) W #[] 0 hb (Nat.zero_le _) (by simp)
theorem ownsB_grown {base : Nat} {e : TypeId} {sz n : Nat} {W w' : World} {v : Value} {cs : List Value} (h : W.ownsRow base e sz v n cs) (hg : W.grownBy w' v.ownBlock) (hb : base ≤ W.heap.size) : Below base W w' :=
  ⟨hg.os, hg.tape, hg.output, hg.size, fun k hk => hg.block k (by omega) fun e => by have := (ownsB_lt h e.symm).1; omega⟩
theorem flatV_take {X : Type} {f : X → List Value} {L : List X} {n j : Nat} {u : Value} (h : (flatV f (L.take n))[j]? = some u) : (flatV f L)[j]? = some u := by
  have e : flatV f L = flatV f (L.take n) ++ flatV f (L.drop n) := by rw [← flatV_app, List.take_append_drop]
  rw [e, List.getElem?_append_left (List.getElem?_eq_some_iff.1 h).1]
  exact h
theorem flatV_drop {X : Type} {f : X → List Value} {s : Nat} (hs : ∀ x, (f x).length = s) {L : List X} {n j : Nat} {u : Value} (hn : n ≤ L.length) (h : (flatV f (L.drop n))[j]? = some u) : (flatV f L)[n * s + j]? = some u := by
  have e : flatV f L = flatV f (L.take n) ++ flatV f (L.drop n) := by rw [← flatV_app, List.take_append_drop]
  have hl : (flatV f (L.take n)).length = n * s := by rw [flatV_len hs, List.length_take, Nat.min_eq_left hn]
  rw [e, List.getElem?_append_right (by omega), hl, show n * s + j - n * s = j by omega]
  exact h
/-- append to a row of one's own, whatever is put behind it -/
theorem run_append_any {P : Program} (w : World) (base : Nat) (t ty e : TypeId) (i : TypeInfo) (z : Value) (size bytes : Nat) (ht : P.underlying t = some (.slice e)) (hi : P.info? e = some i) (hz : i.zero = some z)
    (hsize : i.size = size) (hby : i.bytes = bytes) (hzs : z.cells.size = size) (hsz : 0 < size)
    (v : Value) (n : Nat) (xs : List Value) (hown : w.ownsRow base e size v n xs)
    (ao : Option Addr) (m c : Nat) (news : List Value) (hl : news.length = m * size) (hm : ao = none → m = 0) (hnews : ∀ ad, ao = some ad → ∀ j u, news[j]? = some u → w.cell? (ad.add j) = some u) (h1 : ∀ u ∈ news, u.oneCell' = true)
    (h63 : n + m ≤ maxLen) (hbytes : (n + m) * bytes ≤ 140737488355328) (hbase : base ≤ w.heap.size) :
    ∃ v' w', (Builtin.append_ #[t, t] ty #[v, .slice ao m c]).run P w = .ok v' w' ∧ w'.ownsRow base e size v' (n + m) (xs ++ news) ∧ w.grownBy w' v.ownBlock := by
  cases ao with
  | some ad =>
    obtain ⟨v', w', h2, h3, h4, -, -⟩ := run_append_own_at (P := P) w base t ty e i z size bytes ht hi hz hsize hby hzs hsz v n xs hown ad m c news hl (hnews ad rfl) h1 h63 hbytes hbase
    exact ⟨v', w', h2, h3, h4⟩
  | none =>
    obtain rfl := hm rfl
    have hn : news = [] := List.eq_nil_of_length_eq_zero (by simpa using hl)
    subst hn
    rcases hown.2 with ⟨rfl, rfl⟩ | ⟨g, cap, cur, rfl, hbg, hg, hnc, hcm, hcs, htake⟩
    · refine ⟨.slice none 0 0, w, ?_, by simpa using hown, ⟨rfl, rfl, rfl, Nat.le_refl _, fun _ _ _ => rfl⟩⟩
      simp [Builtin.append_, run_underlying ht, sizeOf, typeInfo, hi, Builtin.lenOf, Builtin.firstCells]
    · refine ⟨.slice (some ⟨g, 0, none⟩) n cap, w, ?_, by simpa using hown, ⟨rfl, rfl, rfl, Nat.le_refl _, fun _ _ _ => rfl⟩⟩
      simp [Builtin.append_, run_underlying ht, sizeOf, typeInfo, hi, Builtin.lenOf, Builtin.firstCells, storeCells, hnc]
theorem step_append_any {P : Program} {w : World} {ops : Array Oper} {o : Oper} {a : Act} {K : Act → World → Prop} {Q : Exit → Act → World → Prop} {E : Prop} (hgd : o.guard = none) (s x : Operand) (t : TypeId)
    (ho : o.op = .call { callee := .builtin .append, args := #[s, x], argTypes := #[t, t] })
    (base : Nat) (e : TypeId) (i : TypeInfo) (z : Value) (size bytes : Nat) (ht : P.underlying t = some (.slice e)) (hi : P.info? e = some i) (hz : i.zero = some z)
    (hsize : i.size = size) (hby : i.bytes = bytes) (hzs : z.cells.size = size) (hsz : 0 < size)
    (v : Value) (n : Nat) (xs : List Value) (hs : a.eval s = v) (hown : w.ownsRow base e size v n xs)
    (ao : Option Addr) (m c : Nat) (news : List Value) (hx : a.eval x = .slice ao m c) (hl : news.length = m * size) (hm : ao = none → m = 0) (hnews : ∀ ad, ao = some ad → ∀ j u, news[j]? = some u → w.cell? (ad.add j) = some u) (h1 : ∀ u ∈ news, u.oneCell' = true)
    (h63 : n + m ≤ maxLen) (hbytes : (n + m) * bytes ≤ 140737488355328) (hbase : base ≤ w.heap.size)
    (h : ∀ v' w', w'.ownsRow base e size v' (n + m) (xs ++ news) → w.grownBy w' v.ownBlock → K (a.put o.dst v') w') :
    if Region.wanted o (yielded ops a.tmps) = true then Oper.wp P o a w K Q else E := by
  have hw : Region.wanted o (yielded ops a.tmps) = true := by simp [Region.wanted, hgd]
  rw [if_pos hw]
  obtain ⟨v', w', hr, h2, h3⟩ := run_append_any (P := P) w base t o.type e i z size bytes ht hi hz hsize hby hzs hsz v n xs hown ao m c news hl hm hnews h1 h63 hbytes hbase
  unfold Oper.wp execOp
  simp only [ho, resolve, invoke, builtin, Sem.run_bind, Sem.run_pure, Result.andThen_ok, List.map_toArray, List.map_cons, List.map_nil, hs, hx, hr]
  exact h v' w' h2 h3
theorem cpL_one (L : List Cp) : ∀ u ∈ flatV cpL L, u.oneCell' = true := fun u hu => by
  obtain ⟨x, -, h⟩ := flatV_mem hu
  unfold cpL at h
  simp only [List.mem_cons, List.not_mem_nil, or_false] at h
  rcases h with rfl | rfl | rfl | rfl | rfl | rfl | rfl <;> rfl
theorem svL_ones (L : List Sv) : ∀ u ∈ flatV svL L, u.oneCell' = true := fun u hu => by
  obtain ⟨x, -, h⟩ := flatV_mem hu
  unfold svL at h
  simp only [List.mem_cons, List.not_mem_nil, or_false] at h
  rcases h with rfl | rfl | rfl | rfl | rfl | rfl | rfl | rfl | rfl | rfl | rfl | rfl | rfl <;> rfl
/-- a part of what a function does, by the way that leads to it -/
def selC : List Bool → Code → Code
  | [], c => c
  | false :: p, .seq a _ => selC p a
  | true :: p, .seq _ b => selC p b
  | false :: p, .cond _ a _ => selC p a
  | true :: p, .cond _ _ b => selC p b
  | _ :: p, .block _ c => selC p c
  | _ :: p, .loop c => selC p c
  | _ :: _, c => c
end Go.Proofs.YtaogpeebencnoaaGreatDoor
namespace Go.Proofs.YtaogpeebencnoaaGreatDoor
open Go.RowKit Go.Deep

section
variable {P : Program} {ops : Array Oper} {Q : Exit → Act → World → Prop} {md : Region.Mode} {S : World → Prop} {l : Nat}

/-- whatever order is picked, and S holds behind every operation but the last one, l -/
def wpAnyE (P : Program) (md : Region.Mode) (ops : Array Oper) (Q : Exit → Act → World → Prop) (S : World → Prop) (l : Nat) : Nat → Array Bool → Act → World → Prop
  | 0, listed, a, w => Region.ready md ops listed = [] ∧ Q .normal a w
  | fuel + 1, listed, a, w =>
    (Region.ready md ops listed = [] → Q .normal a w) ∧
    ∀ i ∈ Region.ready md ops listed, wpOp P ops Q i (fun a' w' => (i ≠ l → S w') ∧ wpAnyE P md ops Q S l fuel (listed.setIfInBounds i true) a' w') a w
theorem wpAny_of_E : ∀ (fuel : Nat) (listed : Array Bool) (a : Act) (w : World), wpAnyE P md ops Q S l fuel listed a w → wpAny P md ops Q fuel listed a w
  | 0, _, _, _, h => h
  | fuel + 1, _, _, _, h => ⟨h.1, fun i hi => wpOp_mono (fun a' w' h' => wpAny_of_E fuel _ a' w' h'.2) (h.2 i hi)⟩
/-- each of D waits for i, or for one of D -/
def waits (md : Region.Mode) (ops : Array Oper) (i : Nat) (D : List Nat) : Bool := D.all fun j => match ops[j]? with
  | some oj => oj.after.any fun e => Region.binds md e && ((e.on == i) || D.contains e.on)
  | none => false
theorem waits_no {listed : Array Bool} {i : Nat} {D : List Nat} (hD : waits md ops i D = true) (hi : listed.getD i true = false) (hun : ∀ j ∈ D, listed.getD j true = false) {j : Nat} (hj : j ∈ Region.ready md ops listed) : j ∉ D := by
  intro hjD
  unfold waits at hD
  rw [List.all_eq_true] at hD
  have h1 := hD j hjD
  obtain ⟨-, oj, hoj, hall⟩ := mem_ready.1 hj
  rw [hoj] at h1
  simp only [Array.any_eq_true] at h1
  obtain ⟨k, hk, he⟩ := h1
  rw [Bool.and_eq_true, Bool.or_eq_true, beq_iff_eq] at he
  have h2 := hall _ (Array.getElem_mem hk) he.1
  have h3 : listed.getD (oj.after[k]).on true = false := by
    rcases he.2 with h | h
    · rw [h]; exact hi
    · exact hun _ (by simpa using h)
  rcases Nat.lt_or_ge (oj.after[k]).on listed.size with h' | h'
  · simp [h'] at h2 h3; rw [h3] at h2; cases h2
  · simp [Array.getElem?_eq_none h'] at h2
theorem wpAnyE_first {i : Nat} {oi : Oper} {v : Value} {D : List Nat} (hi : ops[i]? = some oi) (hsel : ∀ (j : Nat) (o : Oper) cs b, ops[j]? = some o → o.op ≠ .select cs b)
    (hQ : ∀ c a w, Q (.panic c) (a.put oi.dst v) w → Q (.panic c) a w) (hD : waits md ops i D = true) (hl : l ∈ D) (hil : i ≠ l) (hiD : i ∉ D) :
    ∀ (fuel : Nat) (listed : Array Bool) (a : Act) (w : World),
      (∀ j oj, ops[j]? = some oj → j ≠ i → listed.getD j true = false → (∀ e ∈ oj.after, Region.binds md e = true → e.on ≠ i) → oi.apart ops oj = true) →
      (∀ j ∈ D, listed.getD j true = false) →
      i ∈ Region.ready md ops listed → YieldsIf P ops S oi v a → S w →
      wpAnyE P md ops Q S l fuel (listed.setIfInBounds i true) (a.put oi.dst v) w → wpAnyE P md ops Q S l (fuel + 1) listed a w := by
  intro fuel
  induction fuel with
  | zero =>
    intro listed a w _ _ hr hy hS H
    refine ⟨fun h => (by rw [h] at hr; cases hr), fun j hj => ?_⟩
    by_cases hji : j = i
    · subst hji; exact hy.wpOp hi hS ⟨fun _ => hS, H⟩
    · have := ready_mono hj hji
      rw [H.1] at this
      cases this
  | succ fuel ih =>
    intro listed a w hfree hun hr hy hS H
    refine ⟨fun h => (by rw [h] at hr; cases hr), fun j hj => ?_⟩
    by_cases hji : j = i
    · subst hji; exact hy.wpOp hi hS ⟨fun _ => hS, H⟩
    · have hjD : j ∉ D := waits_no hD (mem_ready.1 hr).1 hun hj
      have hjl : j ≠ l := fun e => hjD (e ▸ hl)
      have h1 := H.2 j (ready_mono hj hji)
      obtain ⟨hjun, oj, hoj, hall⟩ := mem_ready.1 hj
      have hnot : ∀ e ∈ oj.after, Region.binds md e = true → e.on ≠ i := fun e he hb heq => by
        have h1 := hall e he hb
        have h0 := (mem_ready.1 hr).1
        rw [heq] at h1
        rcases Nat.lt_or_ge i listed.size with h' | h'
        · simp [h'] at h0 h1; rw [h0] at h1; cases h1
        · simp [Array.getElem?_eq_none h'] at h1
      have h2 := wpOp_putIf hoj (hfree j oj hoj hji hjun hnot) (fun cs b => hsel i oi cs b hi) (fun cs b => hsel j oj cs b hoj) hQ hy h1
      have hfree' : ∀ k ok, ops[k]? = some ok → k ≠ i → (listed.setIfInBounds j true).getD k true = false →
          (∀ e ∈ ok.after, Region.binds md e = true → e.on ≠ i) → oi.apart ops ok = true := fun k ok hk hki hun hno => by
        refine hfree k ok hk hki ?_ hno
        by_cases hjk : j = k
        · subst hjk; exact hjun
        · rw [getD_set_ne true hjk] at hun; exact hun
      have hun' : ∀ k ∈ D, (listed.setIfInBounds j true).getD k true = false := fun k hk => by
        rw [getD_set_ne true (fun e => hjD (by rw [e]; exact hk))]
        exact hun k hk
      refine wpOp_mono (fun a' w' h3 => ⟨h3.2.1, ih (listed.setIfInBounds j true) a' w' hfree' hun' (ready_mono hr (Ne.symm hji)) h3.1 (h3.2.1 hjl) ?_⟩) h2
      rw [Array.setIfInBounds_comm _ _ hji]
      exact h3.2.2
theorem wpAnyE_take (D : List Nat) {i : Nat} {oi : Oper} {v : Value} {fuel : Nat} {listed : Array Bool} {a : Act} {w : World} (hi : ops[i]? = some oi)
    (hs : Region.noSelect ops = true) (hf : Region.free md ops listed i = true) (hr : (Region.ready md ops listed).contains i = true)
    (hD : (waits md ops i D && D.contains l && !(i == l) && !D.contains i && D.all fun j => !listed.getD j true) = true)
    (hQ : ∀ c a w, Q (.panic c) (a.put oi.dst v) w → Q (.panic c) a w) (hy : YieldsIf P ops S oi v a) (hS : S w)
    (h : wpAnyE P md ops Q S l fuel (listed.setIfInBounds i true) (a.put oi.dst v) w) : wpAnyE P md ops Q S l (fuel + 1) listed a w := by
  simp only [Bool.and_eq_true, Bool.not_eq_true', List.all_eq_true] at hD
  obtain ⟨⟨⟨⟨h1, h2⟩, h3⟩, h4⟩, h5⟩ := hD
  exact wpAnyE_first hi (Region.noSelect_spec hs) hQ h1 (by simpa using h2) (by simpa using h3) (by simpa using h4) fuel listed a w (Region.free_spec hi hf) h5 (by simpa using hr) hy hS h
/-- one operation comes up -/
theorem wpAnyE_one {i : Nat} {o : Oper} {fuel : Nat} {listed : Array Bool} {a : Act} {w : World} (hr : Region.ready md ops listed = [i]) (ho : ops[i]? = some o)
    (h : ∀ K' : Act → World → Prop, Shut (∀ a w, (i ≠ l → S w) → ((i ≠ l → S w) → wpAnyE P md ops Q S l fuel (listed.setIfInBounds i true) a w) → K' a w) → if Region.wanted o (yielded ops a.tmps) = true then Oper.wp P o a w K' Q else K' (a.put o.dst undef) w) : wpAnyE P md ops Q S l (fuel + 1) listed a w := by
  refine ⟨fun h0 => (by rw [hr] at h0; cases h0), fun j hj => ?_⟩
  rw [hr] at hj
  have := List.mem_singleton.1 hj
  subst this
  exact wpOp_step ho fun K' hK => h K' fun a w hS hW => hK a w ⟨hS, hW hS⟩
theorem wpAnyE_two {i i' : Nat} {o o' : Oper} {fuel : Nat} {listed : Array Bool} {a : Act} {w : World} (hr : Region.ready md ops listed = [i, i']) (ho : ops[i]? = some o) (ho' : ops[i']? = some o')
    (h : ∀ K' : Act → World → Prop, Shut (∀ a w, (i ≠ l → S w) → ((i ≠ l → S w) → wpAnyE P md ops Q S l fuel (listed.setIfInBounds i true) a w) → K' a w) → if Region.wanted o (yielded ops a.tmps) = true then Oper.wp P o a w K' Q else K' (a.put o.dst undef) w)
    (h' : ∀ K' : Act → World → Prop, Shut (∀ a w, (i' ≠ l → S w) → ((i' ≠ l → S w) → wpAnyE P md ops Q S l fuel (listed.setIfInBounds i' true) a w) → K' a w) → if Region.wanted o' (yielded ops a.tmps) = true then Oper.wp P o' a w K' Q else K' (a.put o'.dst undef) w) : wpAnyE P md ops Q S l (fuel + 1) listed a w := by
  refine ⟨fun h0 => (by rw [hr] at h0; cases h0), fun j hj => ?_⟩
  rw [hr] at hj
  rcases List.mem_cons.1 hj with rfl | hj
  · exact wpOp_step ho fun K' hK => h K' fun a w hS hW => hK a w ⟨hS, hW hS⟩
  · have := List.mem_singleton.1 hj
    subst this
    exact wpOp_step ho' fun K' hK => h' K' fun a w hS hW => hK a w ⟨hS, hW hS⟩
theorem wpAnyE_done {listed : Array Bool} {a : Act} {w : World} (hr : Region.ready md ops listed = []) (h : Q .normal a w) : ∀ fuel, wpAnyE P md ops Q S l fuel listed a w
  | 0 => ⟨hr, h⟩
  | _ + 1 => ⟨fun _ => h, by rw [hr]; simp⟩
theorem wp_region_E (l : Nat) {id : Nat} {a : Act} {w : World} (hm : P.follows .mixedOrders = true) (hS : S w.drew)
    (h : S w.drew → wpAnyE P .any ops Q S l ops.size (Array.replicate ops.size false) a w.drew) : (Code.region id ops true).wp P Q a w :=
  wp_region_any hm (wpAny_of_E _ _ _ _ (h hS))
end
end Go.Proofs.YtaogpeebencnoaaGreatDoor
namespace Go.Proofs.YtaogpeebencnoaaGreatDoor
open Go.RowKit Go.Deep Go.Maps

set_option maxRecDepth 100000 in
set_option maxHeartbeats 4000000 in
theorem svNamed_any (lo m : Nat) (sv cv bv : Value) (B : Sb) (x : Sv) (w : World) (h : SbAt lo w sv cv bv B) (hz : SvSize x) :
    Calls Tryz.prog 117 #[.agg #[.int .i64 B.now, sv, cv, bv, .map (some m)], .agg #[.string x.nm, .int .i64 x.ve, .bool x.gn, .int .i64 x.im, .int .i64 x.wa, .int .i64 x.dn, .int .i64 x.ov, .int .i64 x.nx, .int .i64 x.pr, .int .i64 x.ls, .int .i64 x.ms, .int .i64 x.ld, .int .i64 x.cl]] w fun e w' => e = .returned (.bool (nmB x.nm && inB 1 B.now x.ve)) ∧ Below w.heap.size w w' := by
  obtain ⟨a0, k0, rfl⟩ := h.svs.form
  obtain ⟨a1, k1, rfl⟩ := h.cps.form
  obtain ⟨a2, k2, rfl⟩ := h.bes.form
  clear h
  have s0 := hz.s0
  have HO : ∀ o o', Hid (Below w.heap.size w ((w.alloc o).alloc o')) := fun o o' => (one_al w o).alloc (by simp) o'
  go_enter Tryz.func117, Tryz.ntmps117
  cases q0 : nmB x.nm with
  | false =>
    go_wp2_with (first | (go_at_call 87; refine (within_any _ _ _ _).mono ?_; rintro e w' ⟨rfl, rfl⟩) | (go_at_call 137; refine (isName_any _ _ (by with_reducible assumption)).mono ?_; rintro e w' ⟨rfl, rfl⟩))
    go_ret
    exact ⟨ret_bool (by simp), (HO _ _).out⟩
  | true =>
    go_wp2_with (first | (go_at_call 87; refine (within_any _ _ _ _).mono ?_; rintro e w' ⟨rfl, rfl⟩) | (go_at_call 137; refine (isName_any _ _ (by with_reducible assumption)).mono ?_; rintro e w' ⟨rfl, rfl⟩))
    go_ret
    exact ⟨ret_bool (by simp), (HO _ _).out⟩

set_option maxRecDepth 100000 in
set_option maxHeartbeats 4000000 in
theorem svNumbered_any (lo m : Nat) (sv cv bv : Value) (B : Sb) (x : Sv) (w : World) (h : SbAt lo w sv cv bv B) :
    Calls Tryz.prog 118 #[.agg #[.int .i64 B.now, sv, cv, bv, .map (some m)], .agg #[.string x.nm, .int .i64 x.ve, .bool x.gn, .int .i64 x.im, .int .i64 x.wa, .int .i64 x.dn, .int .i64 x.ov, .int .i64 x.nx, .int .i64 x.pr, .int .i64 x.ls, .int .i64 x.ms, .int .i64 x.ld, .int .i64 x.cl]] w fun e w' => e = .returned (.bool (inB 1 1000000 x.im && inB 1 1000000 x.nx)) ∧ Below w.heap.size w w' := by
  obtain ⟨a0, k0, rfl⟩ := h.svs.form
  obtain ⟨a1, k1, rfl⟩ := h.cps.form
  obtain ⟨a2, k2, rfl⟩ := h.bes.form
  clear h
  have HO : ∀ o o', Hid (Below w.heap.size w ((w.alloc o).alloc o')) := fun o o' => (one_al w o).alloc (by simp) o'
  go_enter Tryz.func118, Tryz.ntmps118
  cases q0 : inB 1 1000000 x.im with
  | false =>
    go_wp2_with (first | (go_at_call 87; refine (within_any _ _ _ _).mono ?_; rintro e w' ⟨rfl, rfl⟩))
    go_ret
    exact ⟨ret_bool (by simp), (HO _ _).out⟩
  | true =>
    go_wp2_with (first | (go_at_call 87; refine (within_any _ _ _ _).mono ?_; rintro e w' ⟨rfl, rfl⟩))
    go_ret
    exact ⟨ret_bool (by simp), (HO _ _).out⟩

set_option maxRecDepth 100000 in
set_option maxHeartbeats 4000000 in
theorem svWanted_any (lo m : Nat) (sv cv bv : Value) (B : Sb) (x : Sv) (w : World) (h : SbAt lo w sv cv bv B) :
    Calls Tryz.prog 119 #[.agg #[.int .i64 B.now, sv, cv, bv, .map (some m)], .agg #[.string x.nm, .int .i64 x.ve, .bool x.gn, .int .i64 x.im, .int .i64 x.wa, .int .i64 x.dn, .int .i64 x.ov, .int .i64 x.nx, .int .i64 x.pr, .int .i64 x.ls, .int .i64 x.ms, .int .i64 x.ld, .int .i64 x.cl]] w fun e w' => e = .returned (.bool (inB 0 10 x.wa && (inB 0 10 x.dn && (inB 0 10 x.ov && (decide (0 < x.dn) || decide (0 < x.ov)))))) ∧ Below w.heap.size w w' := by
  obtain ⟨a0, k0, rfl⟩ := h.svs.form
  obtain ⟨a1, k1, rfl⟩ := h.cps.form
  obtain ⟨a2, k2, rfl⟩ := h.bes.form
  clear h
  have HO : ∀ o o', Hid (Below w.heap.size w ((w.alloc o).alloc o')) := fun o o' => (one_al w o).alloc (by simp) o'
  go_enter Tryz.func119, Tryz.ntmps119
  cases q0 : inB 0 10 x.wa with
  | false =>
    go_wp2_with (first | (go_at_call 87; refine (within_any _ _ _ _).mono ?_; rintro e w' ⟨rfl, rfl⟩))
    go_ret
    exact ⟨ret_bool (by simp), (HO _ _).out⟩
  | true =>
    cases q1 : inB 0 10 x.dn with
    | false =>
      go_wp2_with (first | (go_at_call 87; refine (within_any _ _ _ _).mono ?_; rintro e w' ⟨rfl, rfl⟩))
      go_ret
      exact ⟨ret_bool (by simp), (HO _ _).out⟩
    | true =>
      cases q2 : inB 0 10 x.ov with
      | false =>
        go_wp2_with (first | (go_at_call 87; refine (within_any _ _ _ _).mono ?_; rintro e w' ⟨rfl, rfl⟩))
        go_ret
        exact ⟨ret_bool (by simp), (HO _ _).out⟩
      | true =>
        cases q3 : decide (0 < x.dn) with
        | false =>
          go_wp2_with (first | (go_at_call 87; refine (within_any _ _ _ _).mono ?_; rintro e w' ⟨rfl, rfl⟩))
          go_ret
          exact ⟨ret_bool (by simp), (HO _ _).out⟩
        | true =>
          go_wp2_with (first | (go_at_call 87; refine (within_any _ _ _ _).mono ?_; rintro e w' ⟨rfl, rfl⟩))
          go_ret
          exact ⟨ret_bool (by simp), (HO _ _).out⟩

set_option maxRecDepth 100000 in
set_option maxHeartbeats 4000000 in
theorem svScaled_any (lo m : Nat) (sv cv bv : Value) (B : Sb) (x : Sv) (w : World) (h : SbAt lo w sv cv bv B) :
    Calls Tryz.prog 120 #[.agg #[.int .i64 B.now, sv, cv, bv, .map (some m)], .agg #[.string x.nm, .int .i64 x.ve, .bool x.gn, .int .i64 x.im, .int .i64 x.wa, .int .i64 x.dn, .int .i64 x.ov, .int .i64 x.nx, .int .i64 x.pr, .int .i64 x.ls, .int .i64 x.ms, .int .i64 x.ld, .int .i64 x.cl]] w fun e w' => e = .returned (.bool (inB 0 1000000 x.pr && (inB 0 1000000 x.ld && (inB 0 10 x.ms && (inB 0 x.ms x.ls && inB 0 3 x.cl))))) ∧ Below w.heap.size w w' := by
  obtain ⟨a0, k0, rfl⟩ := h.svs.form
  obtain ⟨a1, k1, rfl⟩ := h.cps.form
  obtain ⟨a2, k2, rfl⟩ := h.bes.form
  clear h
  have HO : ∀ o o', Hid (Below w.heap.size w ((w.alloc o).alloc o')) := fun o o' => (one_al w o).alloc (by simp) o'
  go_enter Tryz.func120, Tryz.ntmps120
  cases q0 : inB 0 1000000 x.pr with
  | false =>
    go_wp2_with (first | (go_at_call 87; refine (within_any _ _ _ _).mono ?_; rintro e w' ⟨rfl, rfl⟩))
    go_ret
    exact ⟨ret_bool (by simp), (HO _ _).out⟩
  | true =>
    cases q1 : inB 0 1000000 x.ld with
    | false =>
      go_wp2_with (first | (go_at_call 87; refine (within_any _ _ _ _).mono ?_; rintro e w' ⟨rfl, rfl⟩))
      go_ret
      exact ⟨ret_bool (by simp), (HO _ _).out⟩
    | true =>
      cases q2 : inB 0 10 x.ms with
      | false =>
        go_wp2_with (first | (go_at_call 87; refine (within_any _ _ _ _).mono ?_; rintro e w' ⟨rfl, rfl⟩))
        go_ret
        exact ⟨ret_bool (by simp), (HO _ _).out⟩
      | true =>
        cases q3 : inB 0 x.ms x.ls with
        | false =>
          go_wp2_with (first | (go_at_call 87; refine (within_any _ _ _ _).mono ?_; rintro e w' ⟨rfl, rfl⟩))
          go_ret
          exact ⟨ret_bool (by simp), (HO _ _).out⟩
        | true =>
          go_wp2_with (first | (go_at_call 87; refine (within_any _ _ _ _).mono ?_; rintro e w' ⟨rfl, rfl⟩))
          go_ret
          exact ⟨ret_bool (by simp), (HO _ _).out⟩

set_option maxRecDepth 100000 in
set_option maxHeartbeats 4000000 in
theorem svStill_any (lo m : Nat) (sv cv bv : Value) (B : Sb) (x : Sv) (w : World) (h : SbAt lo w sv cv bv B) :
    Calls Tryz.prog 121 #[.agg #[.int .i64 B.now, sv, cv, bv, .map (some m)], .agg #[.string x.nm, .int .i64 x.ve, .bool x.gn, .int .i64 x.im, .int .i64 x.wa, .int .i64 x.dn, .int .i64 x.ov, .int .i64 x.nx, .int .i64 x.pr, .int .i64 x.ls, .int .i64 x.ms, .int .i64 x.ld, .int .i64 x.cl]] w fun e w' => e = .returned (.bool (decide (0 < x.pr) || ((x.ls == 0) && ((x.ms == 0) && ((x.ld == 0) && (x.cl == 0)))))) ∧ Below w.heap.size w w' := by
  obtain ⟨a0, k0, rfl⟩ := h.svs.form
  obtain ⟨a1, k1, rfl⟩ := h.cps.form
  obtain ⟨a2, k2, rfl⟩ := h.bes.form
  clear h
  have HO : ∀ o o', Hid (Below w.heap.size w ((w.alloc o).alloc o')) := fun o o' => (one_al w o).alloc (by simp) o'
  go_enter Tryz.func121, Tryz.ntmps121
  cases q0 : decide (0 < x.pr) with
  | false =>
    cases q1 : (x.ls == 0) with
    | false =>
      go_wp2_with (first | (go_at_call 87; refine (within_any _ _ _ _).mono ?_; rintro e w' ⟨rfl, rfl⟩))
      go_ret
      exact ⟨ret_bool (by simp), (HO _ _).out⟩
    | true =>
      cases q2 : (x.ms == 0) with
      | false =>
        go_wp2_with (first | (go_at_call 87; refine (within_any _ _ _ _).mono ?_; rintro e w' ⟨rfl, rfl⟩))
        go_ret
        exact ⟨ret_bool (by simp), (HO _ _).out⟩
      | true =>
        cases q3 : (x.ld == 0) with
        | false =>
          go_wp2_with (first | (go_at_call 87; refine (within_any _ _ _ _).mono ?_; rintro e w' ⟨rfl, rfl⟩))
          go_ret
          exact ⟨ret_bool (by simp), (HO _ _).out⟩
        | true =>
          go_wp2_with (first | (go_at_call 87; refine (within_any _ _ _ _).mono ?_; rintro e w' ⟨rfl, rfl⟩))
          go_ret
          exact ⟨ret_bool (by simp), (HO _ _).out⟩
  | true =>
    go_wp2_with (first | (go_at_call 87; refine (within_any _ _ _ _).mono ?_; rintro e w' ⟨rfl, rfl⟩))
    go_ret
    exact ⟨ret_bool (by simp), (HO _ _).out⟩

set_option maxRecDepth 100000 in
set_option maxHeartbeats 4000000 in
theorem beNamed_any (lo m : Nat) (sv cv bv : Value) (B : Sb) (x : Be) (w : World) (h : SbAt lo w sv cv bv B) (hz : BeSize x) :
    Calls Tryz.prog 122 #[.agg #[.int .i64 B.now, sv, cv, bv, .map (some m)], .agg #[.string x.nm, .bool x.dr]] w fun e w' => e = .returned (.bool (nmB x.nm)) ∧ Below w.heap.size w w' := by
  obtain ⟨a0, k0, rfl⟩ := h.svs.form
  obtain ⟨a1, k1, rfl⟩ := h.cps.form
  obtain ⟨a2, k2, rfl⟩ := h.bes.form
  clear h
  have s0 := hz.s0
  have HO : ∀ o o', Hid (Below w.heap.size w ((w.alloc o).alloc o')) := fun o o' => (one_al w o).alloc (by simp) o'
  go_enter Tryz.func122, Tryz.ntmps122
  go_wp2_with (first | (go_at_call 87; refine (within_any _ _ _ _).mono ?_; rintro e w' ⟨rfl, rfl⟩) | (go_at_call 137; refine (isName_any _ _ (by with_reducible assumption)).mono ?_; rintro e w' ⟨rfl, rfl⟩))
  go_ret
  exact ⟨ret_bool (by simp), (HO _ _).out⟩

set_option maxRecDepth 100000 in
set_option maxHeartbeats 4000000 in
theorem cpNumbered_any (lo m : Nat) (sv cv bv : Value) (B : Sb) (x : Cp) (w : World) (h : SbAt lo w sv cv bv B) :
    Calls Tryz.prog 126 #[.agg #[.int .i64 B.now, sv, cv, bv, .map (some m)], .agg #[.string x.se, .int .i64 x.nu, .int .i64 x.ve, .int .i64 x.im, .int .i64 x.st, .bool x.en, .string x.be]] w fun e w' => e = .returned (.bool (inB 1 B.now x.ve && (inB 1 1000000 x.im && inB 1 4 x.st))) ∧ Below w.heap.size w w' := by
  obtain ⟨a0, k0, rfl⟩ := h.svs.form
  obtain ⟨a1, k1, rfl⟩ := h.cps.form
  obtain ⟨a2, k2, rfl⟩ := h.bes.form
  clear h
  have HO : ∀ o o', Hid (Below w.heap.size w ((w.alloc o).alloc o')) := fun o o' => (one_al w o).alloc (by simp) o'
  go_enter Tryz.func126, Tryz.ntmps126
  cases q0 : inB 1 B.now x.ve with
  | false =>
    go_wp2_with (first | (go_at_call 87; refine (within_any _ _ _ _).mono ?_; rintro e w' ⟨rfl, rfl⟩))
    go_ret
    exact ⟨ret_bool (by simp), (HO _ _).out⟩
  | true =>
    cases q1 : inB 1 1000000 x.im with
    | false =>
      go_wp2_with (first | (go_at_call 87; refine (within_any _ _ _ _).mono ?_; rintro e w' ⟨rfl, rfl⟩))
      go_ret
      exact ⟨ret_bool (by simp), (HO _ _).out⟩
    | true =>
      go_wp2_with (first | (go_at_call 87; refine (within_any _ _ _ _).mono ?_; rintro e w' ⟨rfl, rfl⟩))
      go_ret
      exact ⟨ret_bool (by simp), (HO _ _).out⟩

end Go.Proofs.YtaogpeebencnoaaGreatDoor
namespace Go.Proofs.YtaogpeebencnoaaGreatDoor
open Go.RowKit Go.Deep Go.Maps

def servB (B : Sb) (c : Cp) : Bool := match svF B.ss c.se with
  | none => false
  | some x => inB 1 (x.nx - 1) c.nu
theorem svF_mem {S : List Sv} {s : ByteArray} {x : Sv} (h : svF S s = some x) : x ∈ S := List.mem_of_find?_eq_some h

set_option maxRecDepth 100000 in
set_option maxHeartbeats 4000000 in
theorem nowOk_any (lo m : Nat) (sv cv bv : Value) (B : Sb) (w : World) (h : SbAt lo w sv cv bv B) :
    Calls Tryz.prog 74 #[.agg #[.int .i64 B.now, sv, cv, bv, .map (some m)]] w fun e w' => e = .returned (.bool (inB 0 1000000 B.now)) ∧ Below w.heap.size w w' := by
  obtain ⟨a0, k0, rfl⟩ := h.svs.form
  obtain ⟨a1, k1, rfl⟩ := h.cps.form
  obtain ⟨a2, k2, rfl⟩ := h.bes.form
  clear h
  go_enter Tryz.func74, Tryz.ntmps74
  go_wp2_with (first | (go_at_call 87; refine (within_any _ _ _ _).mono ?_; rintro e w' ⟨rfl, rfl⟩))
  go_ret
  exact ⟨rfl, one_al _ _⟩

set_option maxRecDepth 100000 in
set_option maxHeartbeats 4000000 in
theorem cpBerthed_any (lo m : Nat) (sv cv bv : Value) (B : Sb) (x : Cp) (w : World) (h : SbAt lo w sv cv bv B) (hx : IxAt w m B) (hz : CpSize x) :
    Calls Tryz.prog 127 #[.agg #[.int .i64 B.now, sv, cv, bv, .map (some m)], .agg #[.string x.se, .int .i64 x.nu, .int .i64 x.ve, .int .i64 x.im, .int .i64 x.st, .bool x.en, .string x.be]] w fun e w' => e = .returned (.bool (if x.st == 1 then x.be.toList.isEmpty else hasBe B.bs x.be)) ∧ Below w.heap.size w w' := by
  have HK := hide h
  have HX := hide hx
  have HZ := hide hz.s1
  obtain ⟨a0, k0, rfl⟩ := h.svs.form
  obtain ⟨a1, k1, rfl⟩ := h.cps.form
  obtain ⟨a2, k2, rfl⟩ := h.bes.form
  clear h
  clear hx hz
  have HO : ∀ o o', Hid (Below w.heap.size w ((w.alloc o).alloc o')) := fun o o' => (one_al w o).alloc (by simp) o'
  go_enter Tryz.func127, Tryz.ntmps127
  cases h1 : (x.st == 1) with
  | true =>
    go_wp2
    go_ret
    exact ⟨ret_bool (by simp), (HO _ _).out⟩
  | false =>
    go_wp2_with fail
    refine (berthPlace_any lo m _ _ _ B x.be _ (HK.out.below (HO _ _).out) (HX.out.below (HO _ _).out) HZ.out).mono ?_
    rintro e w1 ⟨c, t, rfl, hb1, hf⟩
    have HB1 := hide (bt (HO _ _).out hb1)
    have HE : Hid (t = hasBe B.bs x.be) := hf.out.1
    clear hb1 hf
    go_wp2
    go_ret
    exact ⟨ret_bool (by simp [HE.out]), HB1.out⟩

set_option maxRecDepth 100000 in
set_option maxHeartbeats 4000000 in
theorem cpServed_any (lo m : Nat) (sv cv bv : Value) (B : Sb) (x : Cp) (w : World) (h : SbAt lo w sv cv bv B) (hx : IxAt w m B) (hz : CpSize x) (hu : risR rSv B.ss = true) (hss : B.ss.all (svB B.now) = true) :
    Calls Tryz.prog 125 #[.agg #[.int .i64 B.now, sv, cv, bv, .map (some m)], .agg #[.string x.se, .int .i64 x.nu, .int .i64 x.ve, .int .i64 x.im, .int .i64 x.st, .bool x.en, .string x.be]] w fun e w' => e = .returned (.bool (servB B x)) ∧ Below w.heap.size w w' := by
  have HK := hide h
  have HX := hide hx
  have HZ := hide hz.s0
  have HU := hide hu
  have HSS := hide hss
  obtain ⟨a0, k0, rfl⟩ := h.svs.form
  obtain ⟨a1, k1, rfl⟩ := h.cps.form
  obtain ⟨a2, k2, rfl⟩ := h.bes.form
  clear h
  clear hx hz hu hss
  go_enter Tryz.func125, Tryz.ntmps125
  go_wp2_with fail
  generalize hWa : World.alloc (w.alloc _) _ = Wa
  have HB0 : Hid (Below w.heap.size w Wa) := by rw [← hWa]; exact (one_al w _).alloc (by simp) _
  have HC0 : Hid (Box Wa (w.heap.size + 1) #[.string x.se, .int .i64 x.nu, .int .i64 x.ve, .int .i64 x.im, .int .i64 x.st, .bool x.en, .string x.be]) := by rw [← hWa]; exact Box.new _ _ _ _ (by simp)
  clear hWa
  refine (svcOf_any lo m _ _ _ B x.se _ (HK.out.below HB0.out) (HX.out.below HB0.out) HZ.out HU.out).mono ?_
  rintro e w1 ⟨y, t, rfl, hb1, hf⟩
  have HB1 := hide (bt HB0.out hb1)
  have HC1 := hide (HC0.out.on hb1)
  clear hb1 HB0 HC0
  have c1 : ∀ o, (w1.alloc o).cell? ⟨w.heap.size + 1, 1, none⟩ = some (.int .i64 x.nu) := fun o => by rw [(HC1.out.on (one_al _ o)).cell 1]; rfl
  cases t with
  | false =>
    have HE : Hid (servB B x = false) := by unfold Hid servB; rw [hf.out]; rfl
    go_wp2
    go_ret
    exact ⟨ret_bool HE.out.symm, bt HB1.out (one_al _ _)⟩
  | true =>
    have HE : Hid (servB B x = inB 1 (y.nx - 1) x.nu) := by unfold Hid servB; rw [hf.out]; rfl
    have hnx := svB_nx (List.all_eq_true.1 HSS.out _ (svF_mem (hf.out.trans (if_pos rfl))))
    have hw : IntKind.i64.wrap (y.nx - 1) = y.nx - 1 := by rw [IntWalk.i64_left]; unfold wrap64; omega
    clear hnx hf
    go_wp2_with (first | (go_at_call 87; refine (within_any _ _ _ _).mono ?_; rintro e w' ⟨rfl, rfl⟩))
    go_ret
    exact ⟨ret_bool HE.out.symm, bt HB1.out (one_al _ _)⟩
end Go.Proofs.YtaogpeebencnoaaGreatDoor
namespace Go.Proofs.YtaogpeebencnoaaGreatDoor
open Go.RowKit Go.Deep Go.Maps

def ckSv (now : Int) (x : Sv) : Nat → Bool
  | 0 => nmB x.nm && inB 1 now x.ve
  | 1 => inB 1 1000000 x.im && inB 1 1000000 x.nx
  | 2 => inB 0 10 x.wa && (inB 0 10 x.dn && (inB 0 10 x.ov && (decide (0 < x.dn) || decide (0 < x.ov))))
  | 3 => inB 0 1000000 x.pr && (inB 0 1000000 x.ld && (inB 0 10 x.ms && (inB 0 x.ms x.ls && inB 0 3 x.cl)))
  | _ => decide (0 < x.pr) || ((x.ls == 0) && ((x.ms == 0) && ((x.ld == 0) && (x.cl == 0))))
theorem inB_iff {lo hi n : Int} : inB lo hi n = true ↔ lo ≤ n ∧ n ≤ hi := by unfold inB; simp
theorem ckSv_all (now : Int) (x : Sv) : svB now x = (ckSv now x 0 && (ckSv now x 1 && (ckSv now x 2 && (ckSv now x 3 && ckSv now x 4)))) := by
  have h1 : (x.dn + x.ov == 0) = decide (x.dn + x.ov = 0) := by by_cases h : x.dn + x.ov = 0 <;> simp [h]
  simp only [svB, ckSv, perB, h1]
  cases nmB x.nm with
  | false => rfl
  | true =>
    rw [Bool.eq_iff_iff]
    by_cases hp : x.pr = 0
    · simp only [hp, Bool.true_and, Bool.and_eq_true, Bool.or_eq_true, inB_iff, decide_eq_true_iff, Bool.not_eq_true', decide_eq_false_iff_not, beq_self_eq_true, if_true, beq_iff_eq]
      constructor <;> intro h <;> omega
    · have hp' : (x.pr == 0) = false := by simpa using hp
      simp only [hp', Bool.true_and, Bool.and_eq_true, Bool.or_eq_true, inB_iff, decide_eq_true_iff, Bool.not_eq_true', decide_eq_false_iff_not, Bool.false_eq_true, if_false, beq_iff_eq]
      constructor <;> intro h <;> omega
def ckCp (B : Sb) (x : Cp) : Nat → Bool
  | 0 => servB B x
  | 1 => inB 1 B.now x.ve && (inB 1 1000000 x.im && inB 1 4 x.st)
  | _ => if x.st == 1 then x.be.toList.isEmpty else hasBe B.bs x.be
theorem ckCp_all (B : Sb) (x : Cp) : cpB B x = (ckCp B x 0 && (ckCp B x 1 && ckCp B x 2)) := by
  simp only [cpB, ckCp, servB, cpT]
  cases svF B.ss x.se with
  | none => rfl
  | some y => simp only [Bool.and_assoc]
def ckBe (x : Be) : Nat → Bool
  | _ => nmB x.nm
theorem and5 {f : Nat → Bool} {b : Bool} (h : b = (f 0 && (f 1 && (f 2 && (f 3 && f 4))))) : (∀ j, j < 5 → f j = true) → b = true := fun hf => by
  rw [h, hf 0 (by omega), hf 1 (by omega), hf 2 (by omega), hf 3 (by omega), hf 4 (by omega)]; rfl
theorem and5n {f : Nat → Bool} {b : Bool} (h : b = (f 0 && (f 1 && (f 2 && (f 3 && f 4))))) {j : Nat} (hj : j < 5) (hf : f j = false) : b = false := by
  have hj' : j = 0 ∨ j = 1 ∨ j = 2 ∨ j = 3 ∨ j = 4 := by omega
  rcases hj' with rfl | rfl | rfl | rfl | rfl <;> simp [h, hf]
theorem and3 {f : Nat → Bool} {b : Bool} (h : b = (f 0 && (f 1 && f 2))) : (∀ j, j < 3 → f j = true) → b = true := fun hf => by
  rw [h, hf 0 (by omega), hf 1 (by omega), hf 2 (by omega)]; rfl
theorem and3n {f : Nat → Bool} {b : Bool} (h : b = (f 0 && (f 1 && f 2))) {j : Nat} (hj : j < 3) (hf : f j = false) : b = false := by
  have hj' : j = 0 ∨ j = 1 ∨ j = 2 := by omega
  rcases hj' with rfl | rfl | rfl <;> simp [h, hf]
theorem and1 {f : Nat → Bool} {b : Bool} (h : b = f 0) : (∀ j, j < 1 → f j = true) → b = true := fun hf => by rw [h, hf 0 (by omega)]
theorem and1n {f : Nat → Bool} {b : Bool} (h : b = f 0) {j : Nat} (hj : j < 1) (hf : f j = false) : b = false := by
  have hj' : j = 0 := by omega
  subst hj'
  rw [h, hf]

end Go.Proofs.YtaogpeebencnoaaGreatDoor
