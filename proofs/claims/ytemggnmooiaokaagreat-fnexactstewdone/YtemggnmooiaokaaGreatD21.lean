import Derived.Test.YtemggnmooiaokaaGreatD18
import Derived.Test.YtemggnmooiaokaaGreatD20
import Derived.OrdersHeld
import Derived.Deep.RegionHeld
namespace Go.Proofs.YtemggnmooiaokaaGreat
open Go.RowKit Go.Deep

/-! what a steward asks for: mathematics -/
def liveL (B : Sb) (s : ByteArray) : List Cp := B.cs.filter (liveB s)
/-- is a copy on a berth that is to be drained? -/
def drB (B : Sb) (c : Cp) : Bool := match B.bs.find? fun x => x.nm.toList == c.be.toList with
  | some x => x.dr
  | none => false
/-- is x to end sooner than y? -/
def sooB (B : Sb) (im : Int) (x y : Cp) : Bool :=
  if (x.st != 3) != (y.st != 3) then x.st != 3
  else if (x.im != im) != (y.im != im) then x.im != im
  else if drB B x != drB B y then drB B x
  else decide (y.nu < x.nu)
def pickC (B : Sb) (im : Int) (best d : Cp) : Cp := if sooB B im d best then d else best
/-- the first to end -/
def fstC (B : Sb) (im : Int) : List Cp → Option Cp
  | [] => none
  | c :: r => some (r.foldl (pickC B im) c)
def enOf (c : Cp) : En := ⟨c.nu, c.ve⟩
def mayL (B : Sb) (L : List Cp) : List Cp := L.filter fun c => mayT B c.se c.nu
def oldL (B : Sb) (x : Sv) : List Cp := (liveL B x.nm).filter fun c => c.im != x.im
def drL (B : Sb) (x : Sv) : List Cp := (liveL B x.nm).filter (drB B)
def failL (B : Sb) (x : Sv) : List Cp := (liveL B x.nm).filter fun c => c.st == 4
def ac0 (x : Sv) : Ac := ⟨x.nm, x.ve, 0, 0, 0, false, [], false⟩
def desF (x : Sv) : Int :=
  let d := (x.ld + x.pr - 1) / x.pr
  let d1 := if d < x.ls then x.ls else d
  if x.ms < d1 then x.ms else d1
def fstE (B : Sb) (im : Int) (L : List Cp) : List En := (fstC B im L).toList.map enOf
/-- the counter -/
def cntF (B : Sb) (x : Sv) : Ac :=
  let n : Int := ((liveL B x.nm).length : Nat)
  if n < x.wa then { ac0 x with cr := x.wa - n }
  else if x.wa < n ∧ (((oldL B x).length = 0 ∧ (drL B x).length = 0) ∨ x.wa + x.ov < n) then
    match fstC B x.im (liveL B x.nm) with
    | some c => if mayT B x.nm c.nu then { ac0 x with es := [enOf c] } else ac0 x
    | none => ac0 x
  else ac0 x
/-- copies are replaced, one at a time -/
def repF (B : Sb) (x : Sv) (L : List Cp) : Ac :=
  let n : Int := ((liveL B x.nm).length : Nat)
  if L.length = 0 ∨ n < x.wa then ac0 x
  else if n < x.wa + x.ov then { ac0 x with cr := 1 }
  else { ac0 x with es := fstE B x.im (mayL B L) }
/-- the scaler -/
def sclF (x : Sv) : Ac :=
  if x.wa < x.ls then { ac0 x with sc := true, wa := x.ls }
  else if x.ms < x.wa then { ac0 x with sc := true, wa := x.ms }
  else if x.wa < desF x then { ac0 x with sc := true, wa := desF x }
  else if desF x < x.wa ∧ 3 ≤ x.cl then { ac0 x with sc := true, wa := x.wa - 1 }
  else if desF x < x.wa then { ac0 x with sc := true, wa := x.wa, cl := x.cl + 1 }
  else if x.cl = 0 then ac0 x
  else { ac0 x with sc := true, wa := x.wa }
/-- what a steward asks for a service -/
def askS (kind : Int) (B : Sb) (x : Sv) : Ac :=
  if kind = 3 then { ac0 x with es := (failL B x).map enOf }
  else if x.gn then
    if kind = 5 then { ac0 x with es := (liveL B x.nm).map enOf, dp := decide ((ctL B.cs x.nm x.im).li + (ctL B.cs x.nm x.im).en = 0) }
    else ac0 x
  else if kind = 1 then cntF B x
  else if kind = 2 then repF B x (oldL B x)
  else if kind = 6 then (if (oldL B x).length = 0 then repF B x (drL B x) else ac0 x)
  else if kind = 4 then (if 0 < x.pr then sclF x else ac0 x)
  else ac0 x
/-- does an act ask for anything? -/
def asksB (A : Ac) : Bool := decide (0 < A.cr) || (A.sc || (!A.es.isEmpty || A.dp))
/-- what a steward asks for -/
def askF (kind : Int) (B : Sb) : List Ac := if validB B then (B.ss.map (askS kind B)).filter asksB else []
theorem live_len (B : Sb) (s : ByteArray) (im : Int) : (((liveL B s).length : Nat) : Int) = (ctL B.cs s im).li := by
  show _ = ct (liveB s) B.cs
  unfold liveL ct
  rw [List.countP_eq_length_filter]
theorem old_len (B : Sb) (x : Sv) : (((oldL B x).length : Nat) : Int) = (ctL B.cs x.nm x.im).ol := by
  show _ = ct (oldB x.nm x.im) B.cs
  unfold oldL liveL ct
  rw [List.filter_filter, List.countP_eq_length_filter]
  congr 2
  exact List.filter_congr fun c _ => by unfold oldB; rw [Bool.and_comm]
/-- sooner, by the order of keys -/
def yesI (a b : Bool) : Int := if a == b then 0 else if a then -1 else 1
theorem yesI_neg (a b : Bool) : yesI a b < 0 ↔ (a = true ∧ b = false) := by cases a <;> cases b <;> decide
theorem yesI_zero (a b : Bool) : yesI a b = 0 ↔ a = b := by cases a <;> cases b <;> decide
def soonI (B : Sb) (im : Int) (x y : Cp) : Int := orI (yesI (x.st != 3) (y.st != 3)) (orI (yesI (x.im != im) (y.im != im)) (orI (yesI (drB B x) (drB B y)) (cmpI y.nu x.nu)))
theorem soonI_neg (B : Sb) (im : Int) (x y : Cp) : decide (soonI B im x y < 0) = sooB B im x y := by
  unfold soonI sooB
  generalize (x.st != 3) = a1
  generalize (y.st != 3) = a2
  generalize (x.im != im) = b1
  generalize (y.im != im) = b2
  generalize drB B x = c1
  generalize drB B y = c2
  have h : decide (cmpI y.nu x.nu < 0) = decide (y.nu < x.nu) := by rw [decide_eq_decide, cmpI_neg]
  rw [← h]
  generalize cmpI y.nu x.nu = z
  cases a1 <;> cases a2 <;> cases b1 <;> cases b2 <;> cases c1 <;> cases c2 <;> rfl
end Go.Proofs.YtemggnmooiaokaaGreat
namespace Go.Proofs.YtemggnmooiaokaaGreat
open Go.RowKit Go.Deep

/-! what the program's stewards do for a service, and that it is the same -/
def createA (x : Sv) (n : Int) : Ac := { ac0 x with cr := n }
def scaleA (x : Sv) (wa cl : Int) : Ac := { ac0 x with sc := true, wa := wa, cl := cl }
def endA (x : Sv) (L : List Cp) : Ac := { ac0 x with es := L.map enOf }
def btw (n ls ms : Int) : Int := max ls (min n ms)
def replI (B : Sb) (x : Sv) (L : List Cp) : Option Ac :=
  let n : Int := ((liveL B x.nm).length : Nat)
  if n < x.wa then none
  else if n < x.wa + x.ov then some (createA x 1)
  else (fstC B x.im (mayL B L)).map fun c => endA x [c]
def numI (B : Sb) (x : Sv) : Option Ac :=
  let n : Int := ((liveL B x.nm).length : Nat)
  if x.gn then none
  else if n < x.wa then some (createA x (x.wa - n))
  else if n = x.wa ∨ ((0 < (oldL B x).length ∨ 0 < (drL B x).length) ∧ n ≤ x.wa + x.ov) then none
  else match fstC B x.im (liveL B x.nm) with
    | some c => if mayT B x.nm c.nu then some (endA x [c]) else none
    | none => none
def loadI (x : Sv) : Option Ac :=
  if x.gn ∨ x.pr = 0 then none
  else if btw x.wa x.ls x.ms ≠ x.wa then some (scaleA x (btw x.wa x.ls x.ms) 0)
  else
    let d := btw ((x.ld + x.pr - 1) / x.pr) x.ls x.ms
    if x.wa < d then some (scaleA x d 0)
    else if d < x.wa ∧ x.cl = 3 then some (scaleA x (x.wa - 1) 0)
    else if d < x.wa then some (scaleA x x.wa (x.cl + 1))
    else if x.cl ≠ 0 then some (scaleA x x.wa 0)
    else none
def allI (x : Sv) (L : List Cp) : Option Ac := if L.length = 0 then none else some (endA x L)
def sweepI (B : Sb) (x : Sv) : Option Ac :=
  if !x.gn then none
  else if (ctL B.cs x.nm x.im).li + (ctL B.cs x.nm x.im).en = 0 then some { ac0 x with dp := true }
  else allI x (liveL B x.nm)
def careI (kind : Int) (B : Sb) (x : Sv) : Option Ac :=
  if kind = 1 then numI B x
  else if kind = 2 then (if x.gn ∨ (oldL B x).length = 0 then none else replI B x (oldL B x))
  else if kind = 3 then allI x (failL B x)
  else if kind = 4 then loadI x
  else if kind = 5 then sweepI B x
  else if kind = 6 then (if x.gn ∨ 0 < (oldL B x).length ∨ (drL B x).length = 0 then none else replI B x (drL B x))
  else none
def someA (A : Ac) : Option Ac := if asksB A then some A else none
theorem some_ac0 (x : Sv) : someA (ac0 x) = none := rfl
theorem some_create (x : Sv) {n : Int} (h : 0 < n) : someA { ac0 x with cr := n } = some (createA x n) := by
  unfold someA asksB
  simp [h, createA]
theorem some_scale (x : Sv) (wa cl : Int) : someA { ac0 x with sc := true, wa := wa, cl := cl } = some (scaleA x wa cl) := by
  unfold someA asksB
  simp [scaleA]
theorem some_ends (x : Sv) (L : List Cp) : someA { ac0 x with es := L.map enOf } = allI x L := by
  unfold someA asksB allI endA ac0
  cases L with
  | nil => rfl
  | cons c r => simp
theorem rep_same (B : Sb) (x : Sv) (L : List Cp) (h : L.length ≠ 0) : someA (repF B x L) = replI B x L := by
  unfold repF replI
  simp only [h, false_or]
  split
  · rfl
  · split
    · exact some_create x (by omega)
    · unfold fstE
      cases hf : fstC B x.im (mayL B L) with
      | none => rfl
      | some c => exact some_ends x [c]
theorem num_same (B : Sb) (x : Sv) (hg : x.gn = false) : someA (cntF B x) = numI B x := by
  unfold cntF numI
  rw [hg]
  simp only [Bool.false_eq_true, if_false]
  split
  · exact some_create x (by omega)
  · rename_i h1
    split
    · rename_i h2
      rw [if_neg (by omega)]
      cases hf : fstC B x.im (liveL B x.nm) with
      | none => rfl
      | some c =>
        simp only []
        cases hm : mayT B x.nm c.nu with
        | true => exact some_ends x [c]
        | false => rfl
    · rename_i h2
      rw [if_pos (by omega)]
      rfl
theorem des_btw {x : Sv} (h : x.ls ≤ x.ms) : desF x = btw ((x.ld + x.pr - 1) / x.pr) x.ls x.ms := by
  unfold desF btw
  simp only []
  generalize (x.ld + x.pr - 1) / x.pr = d
  rw [Int.max_def, Int.min_def]
  split <;> split <;> split <;> (try split) <;> omega
theorem scl_same {x : Sv} (hg : x.gn = false) (hp : 0 < x.pr) (hl : x.ls ≤ x.ms) (hc : 0 ≤ x.cl ∧ x.cl ≤ 3) : someA (sclF x) = loadI x := by
  unfold sclF loadI
  rw [hg, des_btw hl]
  have e0 : btw x.wa x.ls x.ms = if x.wa < x.ls then x.ls else if x.ms < x.wa then x.ms else x.wa := by
    unfold btw
    rw [Int.max_def, Int.min_def]
    split <;> split <;> (try split) <;> (try split) <;> omega
  rw [if_neg (show ¬ ((false = true) ∨ x.pr = 0) by simp; omega), e0]
  generalize btw ((x.ld + x.pr - 1) / x.pr) x.ls x.ms = d
  by_cases h1 : x.wa < x.ls
  · simp only [if_pos h1]
    rw [if_pos (show x.ls ≠ x.wa by omega)]
    exact some_scale x _ _
  simp only [if_neg h1]
  by_cases h2 : x.ms < x.wa
  · simp only [if_pos h2]
    rw [if_pos (show x.ms ≠ x.wa by omega)]
    exact some_scale x _ _
  simp only [if_neg h2]
  rw [if_neg (show ¬ (x.wa ≠ x.wa) by simp)]
  by_cases h3 : x.wa < d
  · simp only [if_pos h3]; exact some_scale x _ _
  simp only [if_neg h3]
  by_cases h4 : d < x.wa ∧ 3 ≤ x.cl
  · rw [if_pos h4, if_pos (show d < x.wa ∧ x.cl = 3 by omega)]; exact some_scale x _ _
  rw [if_neg h4, if_neg (show ¬ (d < x.wa ∧ x.cl = 3) by omega)]
  by_cases h5 : d < x.wa
  · simp only [if_pos h5]; exact some_scale x _ _
  simp only [if_neg h5]
  by_cases h6 : x.cl = 0
  · rw [if_pos h6, if_neg (by omega)]; rfl
  · rw [if_neg h6, if_pos h6]; exact some_scale x _ _
theorem sweep_same (B : Sb) (x : Sv) (hg : x.gn = true) : someA { ac0 x with es := (liveL B x.nm).map enOf, dp := decide ((ctL B.cs x.nm x.im).li + (ctL B.cs x.nm x.im).en = 0) } = sweepI B x := by
  unfold sweepI
  rw [hg]
  simp only [Bool.not_true, Bool.false_eq_true, if_false]
  by_cases h : (ctL B.cs x.nm x.im).li + (ctL B.cs x.nm x.im).en = 0
  · have h0 := live_len B x.nm x.im
    have h1 : 0 ≤ (ctL B.cs x.nm x.im).en := by show 0 ≤ ct _ _; unfold ct; omega
    have h2 : (liveL B x.nm) = [] := List.eq_nil_of_length_eq_zero (by omega)
    rw [if_pos h, h2, decide_eq_true h]
    rfl
  · rw [if_neg h, decide_eq_false h]
    exact some_ends x _
/-- a steward's care of a service is what it asks for -/
theorem care_same {kind : Int} {B : Sb} {x : Sv} (hx : svB B.now x = true) (hk : 1 ≤ kind ∧ kind ≤ 6) : careI kind B x = someA (askS kind B x) := by
  have hper : x.pr ≠ 0 → 0 < x.pr ∧ x.ls ≤ x.ms ∧ 0 ≤ x.cl ∧ x.cl ≤ 3 := by
    intro h0
    unfold svB perB at hx
    simp only [Bool.and_eq_true] at hx
    have h1 := hx.2.2.2.2.2.2.2.2
    rw [if_neg (by simpa using h0)] at h1
    simp only [Bool.and_eq_true] at h1
    have a := inB_lo h1.1
    have b := inB_lo h1.2.2.2.1
    have c := inB_lo h1.2.2.2.2
    have d := inB_hi h1.2.2.2.2
    omega
  unfold careI askS
  have hk' : kind = 1 ∨ kind = 2 ∨ kind = 3 ∨ kind = 4 ∨ kind = 5 ∨ kind = 6 := by omega
  cases hg : x.gn with
  | true =>
    rcases hk' with rfl | rfl | rfl | rfl | rfl | rfl
    · simp [numI, hg, some_ac0]
    · simp [some_ac0]
    · simp only [Int.reduceEq, if_false, if_true]; exact (some_ends x _).symm
    · simp [loadI, hg, some_ac0]
    · simp only [Int.reduceEq, if_false, if_true]; exact (sweep_same B x hg).symm
    · simp [some_ac0]
  | false =>
    rcases hk' with rfl | rfl | rfl | rfl | rfl | rfl
    · simp only [Int.reduceEq, if_false, if_true, Bool.false_eq_true]; exact (num_same B x hg).symm
    · simp only [Int.reduceEq, if_false, if_true, Bool.false_eq_true, false_or]
      by_cases h0 : (oldL B x).length = 0
      · rw [if_pos h0]
        unfold repF
        simp only [h0, true_or, if_true]
        rfl
      · rw [if_neg h0]; exact (rep_same B x _ h0).symm
    · simp only [Int.reduceEq, if_false, if_true]; exact (some_ends x _).symm
    · simp only [Int.reduceEq, if_false, if_true, Bool.false_eq_true]
      by_cases h0 : x.pr = 0
      · rw [if_neg (by omega)]
        simp [loadI, h0, some_ac0]
      · obtain ⟨h1, h2, h3⟩ := hper h0
        rw [if_pos h1]
        exact (scl_same hg h1 h2 h3).symm
    · simp only [Int.reduceEq, if_false, if_true, Bool.false_eq_true]
      simp [sweepI, hg, some_ac0]
    · simp only [Int.reduceEq, if_false, if_true, Bool.false_eq_true, false_or]
      by_cases h0 : (oldL B x).length = 0
      · rw [if_pos h0]
        by_cases h1 : (drL B x).length = 0
        · rw [if_pos (Or.inr h1)]
          unfold repF
          simp only [h1, true_or, if_true]
          rfl
        · rw [if_neg (by omega)]; exact (rep_same B x _ h1).symm
      · rw [if_neg h0, if_pos (Or.inl (by omega))]
        rfl
end Go.Proofs.YtemggnmooiaokaaGreat
namespace Go.Proofs.YtemggnmooiaokaaGreat
open Go.RowKit Go.Deep

section
variable {P : Program} {ops : Array Oper} {Q : Exit → Act → World → Prop} {md : Region.Mode} {S : World → Prop} {l : Nat}

/-- whatever order is picked, and S holds behind every operation but the last one, l -/
def wpAnyE (P : Program) (md : Region.Mode) (ops : Array Oper) (Q : Exit → Act → World → Prop) (S : World → Prop) (l : Nat) : Nat → Array Bool → Act → World → Prop
  | 0, listed, a, w => Region.ready md ops listed = [] ∧ Q .normal a w
  | fuel + 1, listed, a, w =>
    (Region.ready md ops listed = [] → Q .normal a w) ∧
    ∀ i ∈ Region.ready md ops listed, wpOp P ops Q i (fun a' w' => (i ≠ l → S w') ∧ wpAnyE P md ops Q S l fuel (listed.setIfInBounds i true) a' w') a w
theorem wpAny_of_E : ∀ (fuel : Nat) (listed : Array Bool) (a : Act) (w : World), wpAnyE P md ops Q S l fuel listed a w → wpAny P md ops Q fuel listed a w
  | 0, _, _, _, h => h
  | fuel + 1, _, _, _, h => ⟨h.1, fun i hi => wpOp_mono (fun a' w' h' => wpAny_of_E fuel _ a' w' h'.2) (h.2 i hi)⟩
/-- each of D waits for i, or for one of D -/
def waits (md : Region.Mode) (ops : Array Oper) (i : Nat) (D : List Nat) : Bool := D.all fun j => match ops[j]? with
  | some oj => oj.after.any fun e => Region.binds md e && ((e.on == i) || D.contains e.on)
  | none => false
theorem waits_no {listed : Array Bool} {i : Nat} {D : List Nat} (hD : waits md ops i D = true) (hi : listed.getD i true = false) (hun : ∀ j ∈ D, listed.getD j true = false) {j : Nat} (hj : j ∈ Region.ready md ops listed) : j ∉ D := by
  intro hjD
  unfold waits at hD
  rw [List.all_eq_true] at hD
  have h1 := hD j hjD
  obtain ⟨-, oj, hoj, hall⟩ := mem_ready.1 hj
  rw [hoj] at h1
  simp only [Array.any_eq_true] at h1
  obtain ⟨k, hk, he⟩ := h1
  rw [Bool.and_eq_true, Bool.or_eq_true, beq_iff_eq] at he
  have h2 := hall _ (Array.getElem_mem hk) he.1
  have h3 : listed.getD (oj.after[k]).on true = false := by
    rcases he.2 with h | h
    · rw [h]; exact hi
    · exact hun _ (by simpa using h)
  rcases Nat.lt_or_ge (oj.after[k]).on listed.size with h' | h'
  · simp [h'] at h2 h3; rw [h3] at h2; cases h2
  · simp [Array.getElem?_eq_none h'] at h2
theorem wpAnyE_first {i : Nat} {oi : Oper} {v : Value} {D : List Nat} (hi : ops[i]? = some oi) (hsel : ∀ (j : Nat) (o : Oper) cs b, ops[j]? = some o → o.op ≠ .select cs b)
    (hQ : ∀ c a w, Q (.panic c) (a.put oi.dst v) w → Q (.panic c) a w) (hD : waits md ops i D = true) (hl : l ∈ D) (hil : i ≠ l) (hiD : i ∉ D) :
    ∀ (fuel : Nat) (listed : Array Bool) (a : Act) (w : World),
      (∀ j oj, ops[j]? = some oj → j ≠ i → listed.getD j true = false → (∀ e ∈ oj.after, Region.binds md e = true → e.on ≠ i) → oi.apart ops oj = true) →
      (∀ j ∈ D, listed.getD j true = false) →
      i ∈ Region.ready md ops listed → YieldsIf P ops S oi v a → S w →
      wpAnyE P md ops Q S l fuel (listed.setIfInBounds i true) (a.put oi.dst v) w → wpAnyE P md ops Q S l (fuel + 1) listed a w := by
  intro fuel
  induction fuel with
  | zero =>
    intro listed a w _ _ hr hy hS H
    refine ⟨fun h => (by rw [h] at hr; cases hr), fun j hj => ?_⟩
    by_cases hji : j = i
    · subst hji; exact hy.wpOp hi hS ⟨fun _ => hS, H⟩
    · have := ready_mono hj hji
      rw [H.1] at this
      cases this
  | succ fuel ih =>
    intro listed a w hfree hun hr hy hS H
    refine ⟨fun h => (by rw [h] at hr; cases hr), fun j hj => ?_⟩
    by_cases hji : j = i
    · subst hji; exact hy.wpOp hi hS ⟨fun _ => hS, H⟩
    · have hjD : j ∉ D := waits_no hD (mem_ready.1 hr).1 hun hj
      have hjl : j ≠ l := fun e => hjD (e ▸ hl)
      have h1 := H.2 j (ready_mono hj hji)
      obtain ⟨hjun, oj, hoj, hall⟩ := mem_ready.1 hj
      have hnot : ∀ e ∈ oj.after, Region.binds md e = true → e.on ≠ i := fun e he hb heq => by
        have h1 := hall e he hb
        have h0 := (mem_ready.1 hr).1
        rw [heq] at h1
        rcases Nat.lt_or_ge i listed.size with h' | h'
        · simp [h'] at h0 h1; rw [h0] at h1; cases h1
        · simp [Array.getElem?_eq_none h'] at h1
      have h2 := wpOp_putIf hoj (hfree j oj hoj hji hjun hnot) (fun cs b => hsel i oi cs b hi) (fun cs b => hsel j oj cs b hoj) hQ hy h1
      have hfree' : ∀ k ok, ops[k]? = some ok → k ≠ i → (listed.setIfInBounds j true).getD k true = false →
          (∀ e ∈ ok.after, Region.binds md e = true → e.on ≠ i) → oi.apart ops ok = true := fun k ok hk hki hun hno => by
        refine hfree k ok hk hki ?_ hno
        by_cases hjk : j = k
        · subst hjk; exact hjun
        · rw [getD_set_ne true hjk] at hun; exact hun
      have hun' : ∀ k ∈ D, (listed.setIfInBounds j true).getD k true = false := fun k hk => by
        rw [getD_set_ne true (fun e => hjD (by rw [e]; exact hk))]
        exact hun k hk
      refine wpOp_mono (fun a' w' h3 => ⟨h3.2.1, ih (listed.setIfInBounds j true) a' w' hfree' hun' (ready_mono hr (Ne.symm hji)) h3.1 (h3.2.1 hjl) ?_⟩) h2
      rw [Array.setIfInBounds_comm _ _ hji]
      exact h3.2.2
theorem wpAnyE_take (D : List Nat) {i : Nat} {oi : Oper} {v : Value} {fuel : Nat} {listed : Array Bool} {a : Act} {w : World} (hi : ops[i]? = some oi)
    (hs : Region.noSelect ops = true) (hf : Region.free md ops listed i = true) (hr : (Region.ready md ops listed).contains i = true)
    (hD : (waits md ops i D && D.contains l && !(i == l) && !D.contains i && D.all fun j => !listed.getD j true) = true)
    (hQ : ∀ c a w, Q (.panic c) (a.put oi.dst v) w → Q (.panic c) a w) (hy : YieldsIf P ops S oi v a) (hS : S w)
    (h : wpAnyE P md ops Q S l fuel (listed.setIfInBounds i true) (a.put oi.dst v) w) : wpAnyE P md ops Q S l (fuel + 1) listed a w := by
  simp only [Bool.and_eq_true, Bool.not_eq_true', List.all_eq_true] at hD
  obtain ⟨⟨⟨⟨h1, h2⟩, h3⟩, h4⟩, h5⟩ := hD
  exact wpAnyE_first hi (Region.noSelect_spec hs) hQ h1 (by simpa using h2) (by simpa using h3) (by simpa using h4) fuel listed a w (Region.free_spec hi hf) h5 (by simpa using hr) hy hS h
/-- one operation comes up -/
theorem wpAnyE_one {i : Nat} {o : Oper} {fuel : Nat} {listed : Array Bool} {a : Act} {w : World} (hr : Region.ready md ops listed = [i]) (ho : ops[i]? = some o)
    (h : ∀ K' : Act → World → Prop, Shut (∀ a w, (i ≠ l → S w) → ((i ≠ l → S w) → wpAnyE P md ops Q S l fuel (listed.setIfInBounds i true) a w) → K' a w) → if Region.wanted o (yielded ops a.tmps) = true then Oper.wp P o a w K' Q else K' (a.put o.dst undef) w) : wpAnyE P md ops Q S l (fuel + 1) listed a w := by
  refine ⟨fun h0 => (by rw [hr] at h0; cases h0), fun j hj => ?_⟩
  rw [hr] at hj
  have := List.mem_singleton.1 hj
  subst this
  exact wpOp_step ho fun K' hK => h K' fun a w hS hW => hK a w ⟨hS, hW hS⟩
theorem wpAnyE_two {i i' : Nat} {o o' : Oper} {fuel : Nat} {listed : Array Bool} {a : Act} {w : World} (hr : Region.ready md ops listed = [i, i']) (ho : ops[i]? = some o) (ho' : ops[i']? = some o')
    (h : ∀ K' : Act → World → Prop, Shut (∀ a w, (i ≠ l → S w) → ((i ≠ l → S w) → wpAnyE P md ops Q S l fuel (listed.setIfInBounds i true) a w) → K' a w) → if Region.wanted o (yielded ops a.tmps) = true then Oper.wp P o a w K' Q else K' (a.put o.dst undef) w)
    (h' : ∀ K' : Act → World → Prop, Shut (∀ a w, (i' ≠ l → S w) → ((i' ≠ l → S w) → wpAnyE P md ops Q S l fuel (listed.setIfInBounds i' true) a w) → K' a w) → if Region.wanted o' (yielded ops a.tmps) = true then Oper.wp P o' a w K' Q else K' (a.put o'.dst undef) w) : wpAnyE P md ops Q S l (fuel + 1) listed a w := by
  refine ⟨fun h0 => (by rw [hr] at h0; cases h0), fun j hj => ?_⟩
  rw [hr] at hj
  rcases List.mem_cons.1 hj with rfl | hj
  · exact wpOp_step ho fun K' hK => h K' fun a w hS hW => hK a w ⟨hS, hW hS⟩
  · have := List.mem_singleton.1 hj
    subst this
    exact wpOp_step ho' fun K' hK => h' K' fun a w hS hW => hK a w ⟨hS, hW hS⟩
theorem wpAnyE_done {listed : Array Bool} {a : Act} {w : World} (hr : Region.ready md ops listed = []) (h : Q .normal a w) : ∀ fuel, wpAnyE P md ops Q S l fuel listed a w
  | 0 => ⟨hr, h⟩
  | _ + 1 => ⟨fun _ => h, by rw [hr]; simp⟩
theorem wp_region_E (l : Nat) {id : Nat} {a : Act} {w : World} (hm : P.follows .mixedOrders = true) (hS : S w.drew)
    (h : S w.drew → wpAnyE P .any ops Q S l ops.size (Array.replicate ops.size false) a w.drew) : (Code.region id ops true).wp P Q a w :=
  wp_region_any hm (wpAny_of_E _ _ _ _ (h hS))
end
end Go.Proofs.YtemggnmooiaokaaGreat
namespace Go.Proofs.YtemggnmooiaokaaGreat
open Go.RowKit Go.Deep

/-- what is left of a row of statements behind the first n -/
def nthC : Nat → Code → Code
  | 0, c => c
  | n + 1, .seq _ b => nthC n b
  | _ + 1, c => c
theorem ownsB_on {base : Nat} {e : TypeId} {sz n : Nat} {W W' : World} {v : Value} {cs : List Value} (h : W.ownsRow base e sz v n cs) (hb : Below W.heap.size W W') : W'.ownsRow base e sz v n cs := by
  refine ⟨h.1, ?_⟩
  rcases h.2 with h | ⟨g, cap, cur, h1, h2, h3, h4⟩
  · exact Or.inl h
  · exact Or.inr ⟨g, cap, cur, h1, h2, (hb.block g (Array.getElem?_eq_some_iff.1 h3).1).trans h3, h4⟩
/-- a book's box and a copy's, above a world -/
abbrev HeldP (W0 : World) (b1 : Nat) (cs1 : Array Value) (b2 : Nat) (cs2 : Array Value) (W : World) : Prop :=
  (∀ i, W.cell? ⟨b1, i, none⟩ = cs1[i]?) ∧ (∀ i, W.cell? ⟨b2, i, none⟩ = cs2[i]?) ∧ Hid (Below W0.heap.size W0 W ∧ b1 < W0.heap.size ∧ b2 < W0.heap.size)
theorem HeldP.drew {W0 : World} {b1 b2 : Nat} {cs1 cs2 : Array Value} (h1 : Box W0 b1 cs1) (h2 : Box W0 b2 cs2) : HeldP W0 b1 cs1 b2 cs2 W0.drew := ⟨h1.cell, h2.cell, (Below.refl _ _).drew, h1.lt, h2.lt⟩
theorem HeldP.on {W0 W W' : World} {b1 b2 : Nat} {cs1 cs2 : Array Value} (h : HeldP W0 b1 cs1 b2 cs2 W) (hb : Below W0.heap.size W W') : HeldP W0 b1 cs1 b2 cs2 W' := by
  obtain ⟨h1, h2, h3⟩ := h
  obtain ⟨h4, l1, l2⟩ := h3.out
  exact ⟨fun i => (hb.cell (p := ⟨b1, i, none⟩) l1).trans (h1 i), fun i => (hb.cell (p := ⟨b2, i, none⟩) l2).trans (h2 i), h4.trans hb, l1, l2⟩
theorem HeldP.new {W0 W : World} {b1 b2 : Nat} {cs1 cs2 : Array Value} (h : HeldP W0 b1 cs1 b2 cs2 W) (o : Obj) : HeldP W0 b1 cs1 b2 cs2 (W.alloc o) := h.on ((one_al W o).mono h.2.2.out.1.size)
theorem HeldP.al {W0 W : World} {b1 b2 : Nat} {cs1 cs2 : Array Value} (h : HeldP W0 b1 cs1 b2 cs2 W.drew) (o : Obj) : HeldP W0 b1 cs1 b2 cs2 (W.alloc o).drew := by
  have h' : HeldP W0 b1 cs1 b2 cs2 (W.drew.alloc o) := h.new o
  exact h'
theorem below_al {W : World} (o : Obj) : Below W.heap.size W (W.alloc o).drew := (one_al W o).drew
theorem below_al2 {W : World} (o o' : Obj) : Below W.heap.size W ((W.alloc o).alloc o').drew := ((one_al W o).alloc (by simp) o').drew
theorem owns_last {base : Nat} (W : World) (g : Nat) (e : TypeId) (sz : Nat) (hg : W.heap.size = g) (hb : base ≤ g) : (W.alloc (.cells #[] e)).drew.ownsRow base e sz (.slice (some ⟨g, 0, none⟩) 0 0) 0 [] := World.ownsRow.drew (ownsB_made W g e sz hg hb)
theorem owns_first {base : Nat} (W : World) (e : TypeId) (sz : Nat) (hb : base ≤ W.heap.size) (o : Obj) : ((W.alloc (.cells #[] e)).alloc o).drew.ownsRow base e sz (.slice (some ⟨W.heap.size, 0, none⟩) 0 0) 0 [] := World.ownsRow.drew (ownsB_on (ownsB_made W _ e sz rfl hb) (one_al _ _))
theorem step_append_up {P : Program} {w : World} {ops : Array Oper} {o : Oper} {a : Act} {K : Act → World → Prop} {Q : Exit → Act → World → Prop} {E : Prop} (W : World) (v : Value) (n : Nat) (xs : List Value) (ao : Option Addr) (m c : Nat) (news : List Value) (hgd : o.guard = none) (s x : Operand) (t : TypeId)
    (ho : o.op = .call { callee := .builtin .append, args := #[s, x], argTypes := #[t, t] })
    (e : TypeId) (i : TypeInfo) (z : Value) (size bytes : Nat) (ht : P.underlying t = some (.slice e)) (hi : P.info? e = some i) (hz : i.zero = some z)
    (hsize : i.size = size) (hby : i.bytes = bytes) (hzs : z.cells.size = size) (hsz : 0 < size)
    (hs : a.eval s = v) (hown : w.ownsRow W.heap.size e size v n xs)
    (hx : a.eval x = .slice ao m c) (hl : news.length = m * size) (hm : ao = none → m = 0) (hup : Below W.heap.size W w) (hnews : ∀ ad, ao = some ad → ∀ j u, news[j]? = some u → w.cell? (ad.add j) = some u) (h1 : ∀ u ∈ news, u.oneCell' = true)
    (h63 : n + m ≤ maxLen) (hbytes : (n + m) * bytes ≤ 140737488355328)
    (h : ∀ v' w', w'.ownsRow W.heap.size e size v' (n + m) (xs ++ news) → Below W.heap.size w w' → Below W.heap.size W w' → (∀ k, k < w.heap.size → some k ≠ v.ownBlock → w'.heap[k]? = w.heap[k]?) → K (a.put o.dst v') w') :
    if Region.wanted o (yielded ops a.tmps) = true then Oper.wp P o a w K Q else E :=
  step_append_any hgd s x t ho W.heap.size e i z size bytes ht hi hz hsize hby hzs hsz v n xs hs hown ao m c news hx hl hm hnews h1 h63 hbytes hup.size fun v' w' h2 h3 =>
    h v' w' h2 (ownsB_grown hown h3 hup.size) (hup.trans (ownsB_grown hown h3 hup.size)) fun k hk hne => h3.block k hk hne
theorem cells_at {W : World} {g : Nat} {cs : Array Value} {L : List Value} (h : Box W g cs) (e : cs = L.toArray) : ∀ ad, some (⟨g, 0, none⟩ : Addr) = some ad → ∀ j u, L[j]? = some u → W.cell? (ad.add j) = some u := fun ad he j u hj => by
  cases he
  rw [Go.WideShapes.add_plain, Nat.zero_add, h.cell j, e, ← hj]
  simp
theorem cpL_one1 (c : Cp) : ∀ u ∈ cpL c, u.oneCell' = true := fun u hu => cpL_one [c] u (by simpa [flatV] using hu)
theorem Box.of_block {w w' : World} {β : Nat} {cs : Array Value} (h : Box w β cs) (e : w'.heap[β]? = w.heap[β]?) : Box w' β cs :=
  ⟨by have := h.lt; rw [Array.getElem?_eq_getElem this] at e; exact (Array.getElem?_eq_some_iff.1 e).1, fun i => (World.cell?_of_block (a := ⟨β, i, none⟩) e).trans (h.cell i), fun i => (World.frozen?_of_block (a := ⟨β, i, none⟩) e).trans (h.free i)⟩
theorem owns_slice {w : World} {base : Nat} {e : TypeId} {size : Nat} {v : Value} {n : Nat} {xs : List Value} (h : w.ownsRow base e size v n xs) : ∃ a m c, v = .slice a m c := by
  rcases h.2 with ⟨rfl, -⟩ | ⟨g, cap, cur, rfl, -⟩
  · exact ⟨_, _, _, rfl⟩
  · exact ⟨_, _, _, rfl⟩
theorem cps_cap {lo : Nat} {w : World} {ca : Option Addr} {ck : Nat} {L : List Cp} (h : CpsAt lo w (.slice ca L.length ck) L) : L.length ≤ ck := by
  rcases h with ⟨_, _, _, h⟩ | ⟨_, _, cap, h, _, _, _, _, hc, _⟩
  · rw [h]; simp
  · injection h with _ _ h
    omega

end Go.Proofs.YtemggnmooiaokaaGreat
namespace Go.Proofs.YtemggnmooiaokaaGreat
open Go.RowKit Go.Deep

/-! places of copies, as a list of numbers of one's own -/
def atP (p : Cp → Bool) (L : List Cp) (i : Nat) : Bool := match L[i]? with
  | some c => p c
  | none => false
/-- the places, below k, of those that are so -/
def plc (p : Cp → Bool) (L : List Cp) (k : Nat) : List Nat := (List.range k).filter (atP p L)
theorem atP_at {p : Cp → Bool} {L : List Cp} {i : Nat} (h : i < L.length) : atP p L i = p L[i] := by unfold atP; rw [List.getElem?_eq_getElem h]
theorem plc_step {p : Cp → Bool} {L : List Cp} {k : Nat} (h : k < L.length) : plc p L (k + 1) = plc p L k ++ (if p L[k] then [k] else []) := by
  unfold plc
  rw [List.range_succ, List.filter_append, List.filter_cons, atP_at h]
  rfl
theorem plc_lt {p : Cp → Bool} {L : List Cp} {k i : Nat} (h : i ∈ plc p L k) : i < k := by
  unfold plc at h
  exact List.mem_range.1 (List.mem_filter.1 h).1
/-- the copies at some places -/
def getP (L : List Cp) (P : List Nat) : List Cp := P.filterMap fun i => L[i]?
theorem getP_app (L : List Cp) (P Q : List Nat) : getP L (P ++ Q) = getP L P ++ getP L Q := by unfold getP; rw [List.filterMap_append]
theorem getP_plc (p : Cp → Bool) (L : List Cp) : ∀ k, k ≤ L.length → getP L (plc p L k) = (L.take k).filter p
  | 0, _ => rfl
  | k + 1, h => by
    have hk : k < L.length := h
    rw [plc_step hk, getP_app, getP_plc p L k (by omega), List.take_succ_eq_append_getElem hk, List.filter_append]
    congr 1
    cases hq : p L[k] with
    | true => simp [getP, hq, List.getElem?_eq_getElem hk]
    | false => simp [getP, hq]
def intV (P : List Nat) : List Value := P.map fun (i : Nat) => Value.int .i64 (i : Int)
theorem intV_len (P : List Nat) : (intV P).length = P.length * 1 := by unfold intV; simp
theorem intV_one (P : List Nat) : ∀ u ∈ intV P, u.oneCell' = true := fun u hu => by
  unfold intV at hu
  obtain ⟨i, -, rfl⟩ := List.mem_map.1 hu
  rfl
theorem intV_app (P Q : List Nat) : intV (P ++ Q) = intV P ++ intV Q := by unfold intV; rw [List.map_append]
/-- a list of numbers of one's own -/
def IRow (w : World) (base : Nat) (v : Value) (P : List Nat) : Prop := w.ownsRow base 3 1 v P.length (intV P)
theorem IRow.below {w w' : World} {base : Nat} {v : Value} {P : List Nat} (h : IRow w base v P) (hb : Below w.heap.size w w') : IRow w' base v P := ownsB_on h hb
theorem owns_low2 {base base' : Nat} {w : World} {v : Value} {P : List Nat} (h : IRow w base v P) (hb : base' ≤ base) : IRow w base' v P := by
  obtain ⟨h1, h2 | ⟨g, cap, cur, h3, h4, h5⟩⟩ := h
  · exact ⟨h1, Or.inl h2⟩
  · exact ⟨h1, Or.inr ⟨g, cap, cur, h3, Nat.le_trans hb h4, h5⟩⟩
theorem IRow.form {w : World} {base : Nat} {v : Value} {P : List Nat} (h : IRow w base v P) : ∃ a k, v = .slice a P.length k := by
  rcases h.2 with ⟨rfl, h0⟩ | ⟨g, cap, cur, rfl, -⟩
  · exact ⟨none, 0, by rw [h0]⟩
  · exact ⟨_, _, rfl⟩
theorem IRow.at {w : World} {base : Nat} {v : Value} {P : List Nat} (h : IRow w base v P) {i : Nat} (hi : i < P.length) : ∃ g cap, v = .slice (some ⟨g, 0, none⟩) P.length cap ∧ g < w.heap.size ∧ base ≤ g ∧ w.cell? ⟨g, i, none⟩ = some (.int .i64 (P[i] : Int)) := by
  rcases h.2 with ⟨rfl, h0⟩ | ⟨g, cap, cur, rfl, hbg, hh, hnc, hcm, hcs, htk⟩
  · omega
  · refine ⟨g, cap, rfl, (Array.getElem?_eq_some_iff.1 hh).1, hbg, ?_⟩
    have h1 : (intV P)[i]? = some (.int .i64 (P[i] : Int)) := by unfold intV; simp [hi]
    rw [← htk, List.getElem?_take] at h1
    split at h1
    · simp only [World.cell?, hh]
      rw [← Array.getElem?_toList]
      exact h1
    · cases h1
theorem Tryz.infoI : (Tryz.prog.info? 3).map (fun i => (i.zero, i.size, i.bytes)) = some (some (.int .i64 0), 1, 8) := by kernel_rfl
end Go.Proofs.YtemggnmooiaokaaGreat
