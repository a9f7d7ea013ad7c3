import Derived.Test.YtpdlcccnlciecaaGreatV19
import Derived.Test.YtpdlcccnlciecaaGreatV22
namespace Go.Proofs.YtpdlcccnlciecaaGreat
open Go.RowKit Go.Deep

/-- the places of those that may end -/
def mayP (B : Sb) (P : List Nat) : List Nat := P.filter (atP (fun c => mayT B c.se c.nu) B.cs)
theorem getP_filter (p : Cp → Bool) (L : List Cp) : ∀ P : List Nat, getP L (P.filter (atP p L)) = (getP L P).filter p
  | [] => rfl
  | i :: P => by
    have ih := getP_filter p L P
    unfold getP at ih ⊢
    rw [List.filter_cons]
    cases hi : L[i]? with
    | none =>
      have h0 : atP p L i = false := by unfold atP; rw [hi]
      rw [h0, if_neg (by simp), List.filterMap_cons, hi]
      exact ih
    | some c =>
      have h0 : atP p L i = p c := by unfold atP; rw [hi]
      rw [h0, List.filterMap_cons, hi]
      cases hc : p c with
      | true => rw [if_pos rfl, List.filterMap_cons, hi]; simp only [List.filter_cons, hc, if_true, ih]
      | false => rw [if_neg (by simp)]; simp only [List.filter_cons, hc, Bool.false_eq_true, if_false, ih]
theorem getP_may (B : Sb) (P : List Nat) : getP B.cs (mayP B P) = mayL B (getP B.cs P) := getP_filter _ _ _
theorem mayP_mem {B : Sb} {P : List Nat} {i : Nat} (h : i ∈ mayP B P) : i ∈ P := (List.mem_filter.1 h).1
theorem mayP_len (B : Sb) (P : List Nat) : (mayP B P).length ≤ P.length := List.length_filter_le _ _
theorem mayP_step {B : Sb} {P : List Nat} {j : Nat} (h : j < P.length) (hc : P[j] < B.cs.length) : mayP B (P.take (j + 1)) = mayP B (P.take j) ++ (if mayT B B.cs[P[j]].se B.cs[P[j]].nu then [P[j]] else []) := by
  unfold mayP
  rw [List.take_succ_eq_append_getElem h, List.filter_append, List.filter_cons, atP_at hc]
  rfl

set_option maxRecDepth 100000 in
set_option maxHeartbeats 8000000 in
theorem l16May_any (lo base : Nat) (sv cv bv lv : Value) (B : Sb) (P : List Nat) (w : World) (h : SbAt lo w sv cv bv B) (hv : MayOk B) (hp : IRow w base lv P) (hP : ∀ i ∈ P, i < B.cs.length) (hl : P.length ≤ 1000000) :
    Calls Tryz.prog 66 #[.agg #[.int .i64 B.now, sv, cv, bv], lv] w fun e w' => ∃ v, e = .returned v ∧ Below w.heap.size w w' ∧ IRow w' w.heap.size v (mayP B P) := by
  have HK := hide h
  have HV := hide hv
  have HP := hide hp
  have HM := hide hP
  obtain ⟨i1, hi1, hz1, hy1, hx1⟩ := info_parts Tryz.infoI
  have HI1 := hide (And.intro hi1 (And.intro hz1 (And.intro hy1 hx1)))
  obtain ⟨a0, k0, rfl⟩ := h.svs.form
  obtain ⟨a1, k1, rfl⟩ := h.cps.form
  obtain ⟨a2, k2, rfl⟩ := h.bes.form
  obtain ⟨a3, k3, rfl⟩ := hp.form
  clear h hi1 hz1 hy1 hx1 hp hv hP
  go_enter Tryz.func66, Tryz.ntmps66
  go_wp2_with fail
  generalize hWa : World.alloc (w.alloc _) _ = Wa
  have HB : Hid (Below w.heap.size w Wa) := by unfold Hid; rw [← hWa]; exact (one_al w _).alloc (by simp) _
  have F1 : Hid (Box Wa w.heap.size #[.int .i64 B.now, .slice a0 B.ss.length k0, .slice a1 B.cs.length k1, .slice a2 B.bs.length k2]) := by unfold Hid; rw [← hWa]; exact (Box.new _ _ _ _ rfl).on (one_al _ _)
  have OW : Hid (IRow Wa (w.heap.size + 1) (.slice (some ⟨w.heap.size + 1, 0, none⟩) 0 0) []) := by unfold Hid IRow; rw [← hWa]; exact ownsB_made _ _ _ _ (by simp) (Nat.le_refl _)
  have hsz : w.heap.size + 1 ≤ Wa.heap.size := by rw [← hWa]; simp
  clear hWa
  go_loopw [5, 6] (fun m i wr => ∃ j : Nat, i = .int .i64 j ∧ j ≤ P.length ∧ Below w.heap.size w wr ∧ w.heap.size + 1 ≤ wr.heap.size ∧ Box wr w.heap.size #[.int .i64 B.now, .slice a0 B.ss.length k0, .slice a1 B.cs.length k1, .slice a2 B.bs.length k2] ∧ IRow wr (w.heap.size + 1) m (mayP B (P.take j))) (fun _ i _ => P.length - (intOf i).toNat)
  case atStart => exact ⟨0, rfl, by omega, HB.out, hsz, F1.out, OW.out⟩
  case round =>
    obtain ⟨j, rfl, hj, hb, hs2, hf, ho⟩ := hrel
    replace HB := hide hb
    replace F1 := hide hf
    replace OW := hide ho
    clear hb hf ho hsz
    by_cases hlt : j < P.length
    · obtain ⟨g, cap, hge, hg1, -, hgc⟩ := (HP.out.below HB.out).at hlt
      injection hge with hga hgl hgk
      subst hga hgk
      have hcj : P[j] < B.cs.length := HM.out _ (List.getElem_mem hlt)
      obtain ⟨cb, co, rfl, hcb, -, hcc⟩ := HK.out.cps.full' (by omega)
      have hc := (hcc P[j] hcj).2.below HB.out hcb
      have c0 := hc.c0
      have c1 := hc.c1
      have HST := hide (mayP_step hlt hcj)
      have hpl : (mayP B (P.take j)).length ≤ j := Nat.le_trans (mayP_len _ _) (by simp; omega)
      clear hcc hc
      obtain ⟨c, hcq⟩ : ∃ c, c = B.cs[P[j]] := ⟨_, rfl⟩
      rw [← hcq] at c0 c1 HST
      clear hcq
      obtain ⟨q, hq⟩ : ∃ q, q = P[j] := ⟨_, rfl⟩
      rw [← hq] at c0 c1 HST hgc hcj
      clear hq hgl
      have i0 : (0 : Int) ≤ (j : Int) := by omega
      have i1' : (j : Int) < (P.length : Int) := by omega
      have q0 : (0 : Int) ≤ (q : Int) := by omega
      have q1' : (q : Int) < (B.cs.length : Int) := by omega
      go_wp2_with fail
      go_cut [33] (fun c' wc => c' = .bool (mayT B c.se c.nu) ∧ Below wr.heap.size wr wc)
      case first =>
        have xn : Nonempty (In (Up wr)) := ⟨⟨wr, Below.refl _ _⟩⟩
        have xs := fun (Y : In (Up wr)) => in_self Y
        have p0 : ∀ Y : In (Up wr), _ := fun Y => Up.cell Y (F1.out.cell 0)
        have p1 : ∀ Y : In (Up wr), _ := fun Y => Up.cell Y (F1.out.cell 1)
        have p2 : ∀ Y : In (Up wr), _ := fun Y => Up.cell Y (F1.out.cell 2)
        have p3 : ∀ Y : In (Up wr), _ := fun Y => Up.cell Y (F1.out.cell 3)
        have l0 : ∀ Y : In (Up wr), _ := fun Y => Up.cell Y hgc
        have d0 : ∀ Y : In (Up wr), _ := fun Y => Up.cell Y c0
        have d1 : ∀ Y : In (Up wr), _ := fun Y => Up.cell Y c1
        simp at p0 p1 p2 p3
        refine wp_region_class (Up wr) (by kernel_rfl) (by kernel_rfl) ((Below.refl _ _).drew) ?_
        repeat (go_big_quiet_step (first | (go_at_call_of 65 (Value.string c.se); rename_i Y; exact (l14MayEnd_any lo _ _ _ B c.se c.nu _ (HK.out.below (bt HB.out Y.h)) HV.out).mono fun _ _ h => ⟨h.1, Up.next Y h.2⟩)))
        refine wpQuiet_nil ?_
        intro wn hw
        obtain ⟨Y, hY⟩ := hw
        have HWN : Below wr.heap.size wr wn := by rw [hY]; exact Y.h
        clear hY Y p0 p1 p2 p3 l0 d0 d1 xs xn
        go_wp2
        go_meet
        exact ⟨rfl, HWN⟩
      case rest =>
      obtain ⟨rfl, hb3⟩ := hcut
      have HB3 := hide (bt HB.out hb3)
      have OW3 := hide (OW.out.below hb3)
      have F3 := hide (F1.out.on hb3)
      have hs3 : w.heap.size + 1 ≤ wc.heap.size := Nat.le_trans hs2 hb3.size
      have g3 : wc.cell? ⟨g, j, none⟩ = some (.int .i64 (q : Int)) := by rw [hb3.cell hg1]; exact hgc
      clear hb3 HB OW F1 hgc c0 c1
      cases hm : mayT B c.se c.nu with
      | false =>
        have HN : Hid (mayP B (P.take (j + 1)) = mayP B (P.take j)) := by unfold Hid; rw [HST.out, hm]; simp
        go_wp2
        go_roundw
        case rel => exact ⟨j + 1, by go_num, by omega, HB3.out, hs3, F3.out, by rw [HN.out]; exact OW3.out⟩
        case measure => simp [intOf]; omega
      | true =>
        have HN : Hid (mayP B (P.take (j + 1)) = mayP B (P.take j) ++ [q]) := by unfold Hid; rw [HST.out, hm]; simp
        go_wp2_with (at_builtin; refine wpList_append_own_at _ rfl (.tmp 34) (.tmp 39) 85 rfl (w.heap.size + 1) 3 i1 (.int .i64 0) 1 8 Tryz.underlying85 HI1.out.1 HI1.out.2.1 HI1.out.2.2.1 HI1.out.2.2.2 rfl (by decide) _ _ (intV (mayP B (P.take j))) rfl (ownsB_on OW3.out (one_al _ _)) ⟨wc.heap.size, 0, none⟩ 1 1 [.int .i64 (q : Int)] rfl rfl (cells_at (Box.new _ _ _ _ rfl) rfl _ rfl) (by intro u hu; simp at hu; subst hu; rfl) (by unfold maxLen; omega) (by omega) (by simp; omega) ?_; intro v' w4 hown4 hgrow4 hnil4 hat4)
        have hb4 : Below (w.heap.size + 1) wc w4 := ((one_al wc _).mono (by omega)).trans (ownsB_grown (ownsB_on OW3.out (one_al _ _)) hgrow4 (by simp; omega))
        have HO4 : Hid (IRow w4 (w.heap.size + 1) v' (mayP B (P.take (j + 1)))) := by
          unfold Hid IRow
          rw [HN.out, intV_app, List.length_append]
          exact hown4
        go_roundw
        case rel => exact ⟨j + 1, by go_num, by omega, HB3.out.trans (hb4.mono (by omega)), Nat.le_trans hs3 hb4.size, F3.out.below hb4 (by omega), HO4.out⟩
        case measure => simp [intOf]; omega
    · have hje : j = P.length := by omega
      subst hje
      rw [List.take_length] at OW
      go_wp2
      go_ret
      exact ⟨_, rfl, HB.out, owns_low2 OW.out (by omega)⟩
end Go.Proofs.YtpdlcccnlciecaaGreat
namespace Go.Proofs.YtpdlcccnlciecaaGreat
open Go.RowKit Go.Deep

/-! what the program's stewards do for a service, and that it is the same -/
def createA (x : Sv) (n : Int) : Ac := { ac0 x with cr := n }
def scaleA (x : Sv) (wa cl : Int) : Ac := { ac0 x with sc := true, wa := wa, cl := cl }
def endA (x : Sv) (L : List Cp) : Ac := { ac0 x with es := L.map enOf }
def btw (n ls ms : Int) : Int := max ls (min n ms)
def replI (B : Sb) (x : Sv) (L : List Cp) : Option Ac :=
  let n : Int := ((liveL B x.nm).length : Nat)
  if n < x.wa then none
  else if n < x.wa + x.ov then some (createA x 1)
  else (fstC B x.im (mayL B L)).map fun c => endA x [c]
def numI (B : Sb) (x : Sv) : Option Ac :=
  let n : Int := ((liveL B x.nm).length : Nat)
  if x.gn then none
  else if n < x.wa then some (createA x (x.wa - n))
  else if n = x.wa ∨ ((0 < (oldL B x).length ∨ 0 < (drL B x).length) ∧ n ≤ x.wa + x.ov) then none
  else match fstC B x.im (liveL B x.nm) with
    | some c => if mayT B x.nm c.nu then some (endA x [c]) else none
    | none => none
def loadI (x : Sv) : Option Ac :=
  if x.gn ∨ x.pr = 0 then none
  else if btw x.wa x.ls x.ms ≠ x.wa then some (scaleA x (btw x.wa x.ls x.ms) 0)
  else
    let d := btw ((x.ld + x.pr - 1) / x.pr) x.ls x.ms
    if x.wa < d then some (scaleA x d 0)
    else if d < x.wa ∧ x.cl = 3 then some (scaleA x (x.wa - 1) 0)
    else if d < x.wa then some (scaleA x x.wa (x.cl + 1))
    else if x.cl ≠ 0 then some (scaleA x x.wa 0)
    else none
def allI (x : Sv) (L : List Cp) : Option Ac := if L.length = 0 then none else some (endA x L)
def sweepI (B : Sb) (x : Sv) : Option Ac :=
  if !x.gn then none
  else if (ctL B.cs x.nm x.im).li + (ctL B.cs x.nm x.im).en = 0 then some { ac0 x with dp := true }
  else allI x (liveL B x.nm)
def careI (kind : Int) (B : Sb) (x : Sv) : Option Ac :=
  if kind = 1 then numI B x
  else if kind = 2 then (if x.gn ∨ (oldL B x).length = 0 then none else replI B x (oldL B x))
  else if kind = 3 then allI x (failL B x)
  else if kind = 4 then loadI x
  else if kind = 5 then sweepI B x
  else if kind = 6 then (if x.gn ∨ 0 < (oldL B x).length ∨ (drL B x).length = 0 then none else replI B x (drL B x))
  else none
def someA (A : Ac) : Option Ac := if asksB A then some A else none
theorem some_ac0 (x : Sv) : someA (ac0 x) = none := rfl
theorem some_create (x : Sv) {n : Int} (h : 0 < n) : someA { ac0 x with cr := n } = some (createA x n) := by
  unfold someA asksB
  simp [h, createA]
theorem some_scale (x : Sv) (wa cl : Int) : someA { ac0 x with sc := true, wa := wa, cl := cl } = some (scaleA x wa cl) := by
  unfold someA asksB
  simp [scaleA]
theorem some_ends (x : Sv) (L : List Cp) : someA { ac0 x with es := L.map enOf } = allI x L := by
  unfold someA asksB allI endA ac0
  cases L with
  | nil => rfl
  | cons c r => simp
theorem rep_same (B : Sb) (x : Sv) (L : List Cp) (h : L.length ≠ 0) : someA (repF B x L) = replI B x L := by
  unfold repF replI
  simp only [h, false_or]
  split
  · rfl
  · split
    · exact some_create x (by omega)
    · unfold fstE
      cases hf : fstC B x.im (mayL B L) with
      | none => rfl
      | some c => exact some_ends x [c]
theorem num_same (B : Sb) (x : Sv) (hg : x.gn = false) : someA (cntF B x) = numI B x := by
  unfold cntF numI
  rw [hg]
  simp only [Bool.false_eq_true, if_false]
  split
  · exact some_create x (by omega)
  · rename_i h1
    split
    · rename_i h2
      rw [if_neg (by omega)]
      cases hf : fstC B x.im (liveL B x.nm) with
      | none => rfl
      | some c =>
        simp only []
        cases hm : mayT B x.nm c.nu with
        | true => exact some_ends x [c]
        | false => rfl
    · rename_i h2
      rw [if_pos (by omega)]
      rfl
theorem des_btw {x : Sv} (h : x.ls ≤ x.ms) : desF x = btw ((x.ld + x.pr - 1) / x.pr) x.ls x.ms := by
  unfold desF btw
  simp only []
  generalize (x.ld + x.pr - 1) / x.pr = d
  rw [Int.max_def, Int.min_def]
  split <;> split <;> split <;> (try split) <;> omega
theorem scl_same {x : Sv} (hg : x.gn = false) (hp : 0 < x.pr) (hl : x.ls ≤ x.ms) (hc : 0 ≤ x.cl ∧ x.cl ≤ 3) : someA (sclF x) = loadI x := by
  unfold sclF loadI
  rw [hg, des_btw hl]
  have e0 : btw x.wa x.ls x.ms = if x.wa < x.ls then x.ls else if x.ms < x.wa then x.ms else x.wa := by
    unfold btw
    rw [Int.max_def, Int.min_def]
    split <;> split <;> (try split) <;> (try split) <;> omega
  rw [if_neg (show ¬ ((false = true) ∨ x.pr = 0) by simp; omega), e0]
  generalize btw ((x.ld + x.pr - 1) / x.pr) x.ls x.ms = d
  by_cases h1 : x.wa < x.ls
  · simp only [if_pos h1]
    rw [if_pos (show x.ls ≠ x.wa by omega)]
    exact some_scale x _ _
  simp only [if_neg h1]
  by_cases h2 : x.ms < x.wa
  · simp only [if_pos h2]
    rw [if_pos (show x.ms ≠ x.wa by omega)]
    exact some_scale x _ _
  simp only [if_neg h2]
  rw [if_neg (show ¬ (x.wa ≠ x.wa) by simp)]
  by_cases h3 : x.wa < d
  · simp only [if_pos h3]; exact some_scale x _ _
  simp only [if_neg h3]
  by_cases h4 : d < x.wa ∧ 3 ≤ x.cl
  · rw [if_pos h4, if_pos (show d < x.wa ∧ x.cl = 3 by omega)]; exact some_scale x _ _
  rw [if_neg h4, if_neg (show ¬ (d < x.wa ∧ x.cl = 3) by omega)]
  by_cases h5 : d < x.wa
  · simp only [if_pos h5]; exact some_scale x _ _
  simp only [if_neg h5]
  by_cases h6 : x.cl = 0
  · rw [if_pos h6, if_neg (by omega)]; rfl
  · rw [if_neg h6, if_pos h6]; exact some_scale x _ _
theorem sweep_same (B : Sb) (x : Sv) (hg : x.gn = true) : someA { ac0 x with es := (liveL B x.nm).map enOf, dp := decide ((ctL B.cs x.nm x.im).li + (ctL B.cs x.nm x.im).en = 0) } = sweepI B x := by
  unfold sweepI
  rw [hg]
  simp only [Bool.not_true, Bool.false_eq_true, if_false]
  by_cases h : (ctL B.cs x.nm x.im).li + (ctL B.cs x.nm x.im).en = 0
  · have h0 := live_len B x.nm x.im
    have h1 : 0 ≤ (ctL B.cs x.nm x.im).en := by show 0 ≤ ct _ _; unfold ct; omega
    have h2 : (liveL B x.nm) = [] := List.eq_nil_of_length_eq_zero (by omega)
    rw [if_pos h, h2, decide_eq_true h]
    rfl
  · rw [if_neg h, decide_eq_false h]
    exact some_ends x _
/-- a steward's care of a service is what it asks for -/
theorem care_same {kind : Int} {B : Sb} {x : Sv} (hx : svB B.now x = true) (hk : 1 ≤ kind ∧ kind ≤ 6) : careI kind B x = someA (askS kind B x) := by
  have hper : x.pr ≠ 0 → 0 < x.pr ∧ x.ls ≤ x.ms ∧ 0 ≤ x.cl ∧ x.cl ≤ 3 := by
    intro h0
    unfold svB perB at hx
    simp only [Bool.and_eq_true] at hx
    have h1 := hx.2.2.2.2.2.2.2.2
    rw [if_neg (by simpa using h0)] at h1
    simp only [Bool.and_eq_true] at h1
    have a := inB_lo h1.1
    have b := inB_lo h1.2.2.2.1
    have c := inB_lo h1.2.2.2.2
    have d := inB_hi h1.2.2.2.2
    omega
  unfold careI askS
  have hk' : kind = 1 ∨ kind = 2 ∨ kind = 3 ∨ kind = 4 ∨ kind = 5 ∨ kind = 6 := by omega
  cases hg : x.gn with
  | true =>
    rcases hk' with rfl | rfl | rfl | rfl | rfl | rfl
    · simp [numI, hg, some_ac0]
    · simp [some_ac0]
    · simp only [Int.reduceEq, if_false, if_true]; exact (some_ends x _).symm
    · simp [loadI, hg, some_ac0]
    · simp only [Int.reduceEq, if_false, if_true]; exact (sweep_same B x hg).symm
    · simp [some_ac0]
  | false =>
    rcases hk' with rfl | rfl | rfl | rfl | rfl | rfl
    · simp only [Int.reduceEq, if_false, if_true, Bool.false_eq_true]; exact (num_same B x hg).symm
    · simp only [Int.reduceEq, if_false, if_true, Bool.false_eq_true, false_or]
      by_cases h0 : (oldL B x).length = 0
      · rw [if_pos h0]
        unfold repF
        simp only [h0, true_or, if_true]
        rfl
      · rw [if_neg h0]; exact (rep_same B x _ h0).symm
    · simp only [Int.reduceEq, if_false, if_true]; exact (some_ends x _).symm
    · simp only [Int.reduceEq, if_false, if_true, Bool.false_eq_true]
      by_cases h0 : x.pr = 0
      · rw [if_neg (by omega)]
        simp [loadI, h0, some_ac0]
      · obtain ⟨h1, h2, h3⟩ := hper h0
        rw [if_pos h1]
        exact (scl_same hg h1 h2 h3).symm
    · simp only [Int.reduceEq, if_false, if_true, Bool.false_eq_true]
      simp [sweepI, hg, some_ac0]
    · simp only [Int.reduceEq, if_false, if_true, Bool.false_eq_true, false_or]
      by_cases h0 : (oldL B x).length = 0
      · rw [if_pos h0]
        by_cases h1 : (drL B x).length = 0
        · rw [if_pos (Or.inr h1)]
          unfold repF
          simp only [h1, true_or, if_true]
          rfl
        · rw [if_neg (by omega)]; exact (rep_same B x _ h1).symm
      · rw [if_neg h0, if_pos (Or.inl (by omega))]
        rfl
end Go.Proofs.YtpdlcccnlciecaaGreat
namespace Go.Proofs.YtpdlcccnlciecaaGreat
open Go.RowKit Go.Deep

/-! what is left to do: mathematics -/
def sumL (f : Sv → Int) (L : List Sv) : Int := (L.map f).sum
theorem sum_snoc (f : Sv → Int) (L : List Sv) (x : Sv) : sumL f (L ++ [x]) = sumL f L + f x := by unfold sumL; simp
theorem sum_take {f : Sv → Int} {L : List Sv} {i : Nat} (h : i < L.length) : sumL f (L.take (i + 1)) = sumL f (L.take i) + f L[i] := by
  rw [List.take_succ_eq_append_getElem h, sum_snoc]
theorem sum_bd {f : Sv → Int} {K : Int} : ∀ {L : List Sv}, (∀ x ∈ L, 0 ≤ f x ∧ f x ≤ K) → 0 ≤ sumL f L ∧ sumL f L ≤ K * L.length
  | [], _ => by simp [sumL]
  | x :: L, h => by
    have h1 := h x (List.mem_cons_self ..)
    have h2 := sum_bd (L := L) (fun y hy => h y (List.mem_cons_of_mem _ hy))
    unfold sumL at h2 ⊢
    simp only [List.map_cons, List.sum_cons, List.length_cons]
    have : K * ((L.length + 1 : Nat) : Int) = K * L.length + K := by rw [Int.natCast_add, Int.mul_add]; simp
    omega
theorem sum_zero {f : Sv → Int} : ∀ {L : List Sv}, (∀ x ∈ L, 0 ≤ f x) → sumL f L = 0 → ∀ x ∈ L, f x = 0
  | [], _, _, x, hx => by simp at hx
  | y :: L, h, h0, x, hx => by
    have h1 := h y (List.mem_cons_self ..)
    have h2 : 0 ≤ sumL f L := by
      have : ∀ {M : List Sv}, (∀ x ∈ M, 0 ≤ f x) → 0 ≤ sumL f M := fun {M} hM => by
        induction M with
        | nil => simp [sumL]
        | cons z M ih =>
          have a1 := hM z (List.mem_cons_self ..)
          have a2 := ih (fun y hy => hM y (List.mem_cons_of_mem _ hy))
          unfold sumL at a2 ⊢
          simp only [List.map_cons, List.sum_cons]
          omega
      exact this (fun y hy => h y (List.mem_cons_of_mem _ hy))
    have h3 : sumL f (y :: L) = f y + sumL f L := by unfold sumL; simp
    rcases List.mem_cons.1 hx with rfl | hm
    · omega
    · exact sum_zero (fun y hy => h y (List.mem_cons_of_mem _ hy)) (by omega) x hm
theorem sum_congr {f g : Sv → Int} {L : List Sv} (h : ∀ x ∈ L, f x = g x) : sumL f L = sumL g L := by
  unfold sumL
  rw [List.map_congr_left h]
def misB (B : Sb) (x : Sv) (c : Cp) : Bool := (c.im != x.im) || drB B c
def misL (B : Sb) (x : Sv) : List Cp := (liveL B x.nm).filter (misB B x)
def unrL (B : Sb) (s : ByteArray) : List Cp := (liveL B s).filter fun c => c.st != 3
def cx (B : Sb) (x : Sv) : Ct := ctL B.cs x.nm x.im
/-- what a service adds to a rank -/
def sh0 (x : Sv) : Int := if x.gn then 1 else 0
def sh1 (B : Sb) (x : Sv) : Int := if x.gn then (cx B x).en + (cx B x).li else (cx B x).en
def sh2 (B : Sb) (x : Sv) : Int := if x.gn then 0 else max ((cx B x).li - x.wa) (x.wa - (cx B x).li)
def sh3 (B : Sb) (x : Sv) : Int := ((misL B x).length : Nat)
def sh4 (B : Sb) (x : Sv) : Int := (cx B x).li - (cx B x).re
def sq3 (B : Sb) (x : Sv) : Int := if x.gn then 0 else ((misL B x).length : Nat)
def sq4 (B : Sb) (x : Sv) : Int := if x.gn then 0 else ((unrL B x.nm).length : Nat)
theorem ctB_li {B : Sb} {x : Sv} (hx : x ∈ B.ss) : (ctB B x.nm).li = (cx B x).li ∧ (ctB B x.nm).en = (cx B x).en := by
  unfold ctB
  cases h : svF B.ss x.nm with
  | none =>
    unfold svF at h
    have := List.find?_eq_none.1 h x hx
    simp at this
  | some y => exact ⟨rfl, rfl⟩
theorem live_unr (B : Sb) (x : Sv) : sh4 B x = ((unrL B x.nm).length : Nat) := by
  unfold sh4 cx ctL unrL liveL ct
  simp only []
  rw [List.filter_filter]
  have : ∀ L : List Cp, L.countP (liveB x.nm) = L.countP (rdyB x.nm) + (L.filter fun c => (c.st != 3) && liveB x.nm c).length := fun L => by
    induction L with
    | nil => rfl
    | cons c L ih =>
      rw [List.countP_cons, List.countP_cons, List.filter_cons, ih]
      unfold rdyB
      cases h1 : liveB x.nm c <;> cases h2 : (c.st == 3) <;> simp [bne, h2] <;> omega
  rw [this B.cs]
  simp only [Int.natCast_add]
  omega
theorem sh0_bd (x : Sv) : 0 ≤ sh0 x ∧ sh0 x ≤ 1000 := by unfold sh0; split <;> omega
theorem ct_len (p : Cp → Bool) (L : List Cp) : 0 ≤ ct p L ∧ ct p L ≤ L.length := by
  unfold ct
  have := List.countP_le_length (p := p) (l := L)
  omega
theorem sh1_bd {B : Sb} (h : B.cs.length ≤ 200) (x : Sv) : 0 ≤ sh1 B x ∧ sh1 B x ≤ 1000 := by
  have h1 := ct_len (endB x.nm) B.cs
  have h2 := ct_len (liveB x.nm) B.cs
  unfold sh1 cx ctL
  simp only []
  split <;> omega
theorem sh2_bd {B : Sb} (h : B.cs.length ≤ 200) {x : Sv} (hw : 0 ≤ x.wa ∧ x.wa ≤ 10) : 0 ≤ sh2 B x ∧ sh2 B x ≤ 1000 := by
  have h2 := ct_len (liveB x.nm) B.cs
  unfold sh2 cx ctL
  simp only []
  split <;> omega
theorem live_le {B : Sb} (h : B.cs.length ≤ 200) (s : ByteArray) : (liveL B s).length ≤ 200 := Nat.le_trans (List.length_filter_le _ _) h
theorem sh3_bd {B : Sb} (h : B.cs.length ≤ 200) (x : Sv) : 0 ≤ sh3 B x ∧ sh3 B x ≤ 1000 := by
  have h1 := live_le h x.nm
  have h2 : (misL B x).length ≤ (liveL B x.nm).length := List.length_filter_le _ _
  unfold sh3
  omega
theorem unr_le {B : Sb} (h : B.cs.length ≤ 200) (s : ByteArray) : (unrL B s).length ≤ 200 := Nat.le_trans (List.length_filter_le _ _) (live_le h s)
theorem sh4_bd {B : Sb} (h : B.cs.length ≤ 200) (x : Sv) : 0 ≤ sh4 B x ∧ sh4 B x ≤ 1000 := by
  have := unr_le h x.nm
  rw [live_unr]
  omega
theorem sq3_bd {B : Sb} (h : B.cs.length ≤ 200) (x : Sv) : 0 ≤ sq3 B x ∧ sq3 B x ≤ 1000 := by
  have := sh3_bd h x
  unfold sh3 at this
  unfold sq3
  split <;> omega
theorem sq4_bd {B : Sb} (h : B.cs.length ≤ 200) (x : Sv) : 0 ≤ sq4 B x ∧ sq4 B x ≤ 1000 := by
  have := unr_le h x.nm
  unfold sq4
  split <;> omega
/-- the rank as the program has it, and as the specification has it -/
def rankI (B : Sb) (L : List Sv) : List Int := [sumL sh0 L, sumL (sh1 B) L, sumL (sh2 B) L, sumL (sh3 B) L, sumL (sh4 B) L]
def rankS (B : Sb) (L : List Sv) : List Int := [sumL sh0 L, sumL (sh1 B) L, sumL (sh2 B) L, sumL (sq3 B) L, sumL (sq4 B) L]
def zero5 (r : List Int) : Bool := r.all (· == 0)
theorem rank_same (B : Sb) (L : List Sv) : zero5 (rankI B L) = zero5 (rankS B L) := by
  by_cases h : sumL sh0 L = 0
  · have hg : ∀ x ∈ L, x.gn = false := fun x hx => by
      have := sum_zero (f := sh0) (fun y _ => (sh0_bd y).1) h x hx
      unfold sh0 at this
      cases hq : x.gn with
      | false => rfl
      | true => rw [hq] at this; simp at this
    have e3 : sumL (sh3 B) L = sumL (sq3 B) L := sum_congr fun x hx => by unfold sq3 sh3; rw [hg x hx]; rfl
    have e4 : sumL (sh4 B) L = sumL (sq4 B) L := sum_congr fun x hx => by rw [live_unr]; unfold sq4; rw [hg x hx]; rfl
    unfold rankI rankS
    rw [e3, e4]
  · have hn : (sumL sh0 L == 0) = false := by simpa using h
    unfold zero5 rankI rankS
    simp [hn]
def folB (x : Sv) : Bool := (x.pr == 0) || ((x.wa == desF x) && (x.cl == 0))
def doneB (B : Sb) : Bool := validB B && (B.ss.all folB && zero5 (rankI B B.ss))
end Go.Proofs.YtpdlcccnlciecaaGreat
namespace Go.Proofs.YtpdlcccnlciecaaGreat
open Go.RowKit Go.Deep Go.Maps

/-- is a berth to be drained? -/
def drS (Bl : List Be) (s : ByteArray) : Bool := match Bl.find? fun x => x.nm.toList == s.toList with
  | some x => x.dr
  | none => false
theorem drB_is (B : Sb) (c : Cp) : drB B c = drS B.bs c.be := rfl
theorem be_one {S : List Be} (h : risR rBe S = true) {s : ByteArray} {k : Nat} (hk : k < S.length) (he : (S[k].nm.toList == s.toList) = true) : drS S s = S[k].dr := by
  have : (S.find? fun x => x.nm.toList == s.toList) = some S[k] := by
    refine find_at hk (fun j hj hjk => ?_) he
    have := ris_lt (r := rBe) (fun a b c => less_trans) h (k - j - 1) j (by omega)
    have e2 : j + (k - j - 1) + 1 = k := by omega
    simp only [e2] at this
    refine bytes_ne.2 fun e => ?_
    unfold rBe at this
    rw [e, ← bytes_eq.1 he, less_irrefl] at this
    cases this
  unfold drS
  rw [this]
theorem be_no {S : List Be} {s : ByteArray} (h : hasBe S s = false) : drS S s = false := by
  have : (S.find? fun x => x.nm.toList == s.toList) = none := by
    rw [List.find?_eq_none]
    unfold hasBe at h
    rw [List.any_eq_false] at h
    exact h
  unfold drS
  rw [this]

set_option maxRecDepth 100000 in
set_option maxHeartbeats 4000000 in
theorem drains_any (lo m : Nat) (sv cv bv : Value) (B : Sb) (s : ByteArray) (w : World) (h : SbAt lo w sv cv bv B) (hx : IxAt w m B) (hs : s.size ≤ maxLen) (hu : risR rBe B.bs = true) :
    Calls Tryz.prog 98 #[.agg #[.int .i64 B.now, sv, cv, bv, .map (some m)], .string s] w fun e w' => e = .returned (.bool (drS B.bs s)) ∧ Below w.heap.size w w' := by
  have HK := hide h
  have HX := hide hx
  have HS := hide hs
  have HU := hide hu
  obtain ⟨a0, k0, rfl⟩ := h.svs.form
  obtain ⟨a1, k1, rfl⟩ := h.cps.form
  obtain ⟨a2, k2, rfl⟩ := h.bes.form
  have hmx := h.bes.max
  unfold maxLen at hmx
  clear h hx hs hu
  go_enter Tryz.func98, Tryz.ntmps98
  go_wp2_with fail
  generalize hWa : w.alloc _ = Wa
  have HB0 : Hid (Below w.heap.size w Wa) := by rw [← hWa]; exact one_al w _
  have FA0 : Hid (Box Wa w.heap.size #[.int .i64 B.now, .slice a0 B.ss.length k0, .slice a1 B.cs.length k1, .slice a2 B.bs.length k2, .map (some m)]) := by rw [← hWa]; exact Box.new _ _ _ _ rfl
  clear hWa
  refine (berthPlace_any lo m _ _ _ B s _ (HK.out.below HB0.out) (HX.out.below HB0.out) HS.out).mono ?_
  rintro e w1 ⟨c, t, rfl, hb1, hf⟩
  have HB1 := hide (bt HB0.out hb1)
  have FA1 := hide (FA0.out.on hb1)
  clear hb1 FA0 HB0 HX
  have x3 := FA1.out.cell 3
  simp at x3
  cases t with
  | false =>
    have HE : Hid (drS B.bs s = false) := be_no hf.out.1.symm
    go_wp2
    go_ret
    exact ⟨ret_bool HE.out.symm, HB1.out⟩
  | true =>
    obtain ⟨k, hk, rfl, he⟩ := hf.out.2 rfl
    have HE : Hid (drS B.bs s = B.bs[k].dr) := be_one HU.out hk he
    obtain ⟨bb, bo, rfl, hbb, -, hcc⟩ := HK.out.bes.full' (by omega)
    obtain ⟨c0, c1⟩ := (hcc k hk).2.below HB1.out hbb
    have i0 : (0 : Int) ≤ (k : Int) := by omega
    have i1' : (k : Int) < (B.bs.length : Int) := by omega
    clear hcc he hf
    obtain ⟨dr, hdr⟩ : ∃ d, d = B.bs[k].dr := ⟨_, rfl⟩
    rw [← hdr] at c1 HE
    clear hdr
    go_wp2
    go_ret
    exact ⟨ret_bool HE.out.symm, HB1.out⟩

/-- what a steward sees of a service, as values -/
def LkIs (lk : List Value) (m : Nat) (sv cv bv : Value) (B : Sb) (x : Sv) (n : Ct) (d : Int) : Prop := lk = [.int .i64 B.now, sv, cv, bv, .map (some m), .string x.nm, .int .i64 x.ve, .bool x.gn, .int .i64 x.im, .int .i64 x.wa, .int .i64 x.dn, .int .i64 x.ov, .int .i64 x.nx, .int .i64 x.pr, .int .i64 x.ls, .int .i64 x.ms, .int .i64 x.ld, .int .i64 x.cl, .int .i64 n.li, .int .i64 n.re, .int .i64 n.ol, .int .i64 n.fa, .int .i64 n.en, .int .i64 d]
theorem Tryz.sizeLook : (Tryz.prog.info? 105).map (·.size) = some 24 := by kernel_rfl
theorem Tryz.sizeCopy : (Tryz.prog.info? 82).map (·.size) = some 7 := by kernel_rfl
theorem LkIs.len {lk : List Value} {m : Nat} {sv cv bv : Value} {B : Sb} {x : Sv} {n : Ct} {d : Int} (h : LkIs lk m sv cv bv B x n d) : lk.length = 24 := by unfold LkIs at h; rw [h]; rfl
theorem LkIs.size {lk : List Value} {m : Nat} {sv cv bv : Value} {B : Sb} {x : Sv} {n : Ct} {d : Int} (h : LkIs lk m sv cv bv B x n d) : (Tryz.prog.info? 105).map (·.size) = some lk.length := by rw [h.len]; exact Tryz.sizeLook
theorem Box.rng {w : World} {β : Nat} {l : List Value} (h : Box w β l.toArray) : w.rangeAt β 0 l := h.range rfl

section
variable (lo m : Nat) (sv cv bv : Value) (B : Sb) (x : Sv) (n : Ct) (d : Int) (lk : List Value) (c : Cp) (w : World)

set_option maxRecDepth 100000 in
set_option maxHeartbeats 4000000 in
theorem onDrained_any (hlk : LkIs lk m sv cv bv B x n d) (h : SbAt lo w sv cv bv B) (hx : IxAt w m B) (hs : c.be.size ≤ maxLen) (hu : risR rBe B.bs = true) :
    Calls Tryz.prog 74 #[.agg lk.toArray, .agg #[.string c.se, .int .i64 c.nu, .int .i64 c.ve, .int .i64 c.im, .int .i64 c.st, .bool c.en, .string c.be]] w fun e w' => e = .returned (.bool (drB B c)) ∧ Below w.heap.size w w' := by
  have HK := hide h
  have HX := hide hx
  have HS := hide hs
  have HU := hide hu
  have HO : ∀ o o', Hid (Below w.heap.size w ((w.alloc o).alloc o')) := fun o o' => (one_al w o).alloc (by simp) o'
  have FA : ∀ o i, ((w.alloc (.cells lk.toArray 105)).alloc o).cell? ⟨w.heap.size, i, none⟩ = lk.toArray[i]? := fun o i => ((Box.new _ _ _ _ rfl).on (one_al _ _)).cell i
  have f0 : ∀ o, ((w.alloc (.cells lk.toArray 105)).alloc o).cell? ⟨w.heap.size, 0, none⟩ = some (.int .i64 B.now) := fun o => by rw [FA, hlk]; rfl
  have f1 : ∀ o, ((w.alloc (.cells lk.toArray 105)).alloc o).cell? ⟨w.heap.size, 1, none⟩ = some sv := fun o => by rw [FA, hlk]; rfl
  have f2 : ∀ o, ((w.alloc (.cells lk.toArray 105)).alloc o).cell? ⟨w.heap.size, 2, none⟩ = some cv := fun o => by rw [FA, hlk]; rfl
  have f3 : ∀ o, ((w.alloc (.cells lk.toArray 105)).alloc o).cell? ⟨w.heap.size, 3, none⟩ = some bv := fun o => by rw [FA, hlk]; rfl
  have f4 : ∀ o, ((w.alloc (.cells lk.toArray 105)).alloc o).cell? ⟨w.heap.size, 4, none⟩ = some (.map (some m)) := fun o => by rw [FA, hlk]; rfl
  obtain ⟨a0, k0, rfl⟩ := h.svs.form
  obtain ⟨a1, k1, rfl⟩ := h.cps.form
  obtain ⟨a2, k2, rfl⟩ := h.bes.form
  clear h hx hs hu FA hlk
  go_enter Tryz.func74, Tryz.ntmps74
  go_wp2_with fail
  refine (drains_any lo m _ _ _ B c.be _ (HK.out.below (HO _ _).out) (HX.out.below (HO _ _).out) HS.out HU.out).mono ?_
  rintro e w1 ⟨rfl, hb1⟩
  have HB1 := hide (bt (HO _ _).out hb1)
  clear hb1 f0 f1 f2 f3 f4
  go_wp2
  go_ret
  exact ⟨ret_bool (drB_is B c).symm, HB1.out⟩

set_option maxRecDepth 100000 in
set_option maxHeartbeats 4000000 in
theorem isOld_any (hlk : LkIs lk m sv cv bv B x n d) :
    Calls Tryz.prog 107 #[.agg lk.toArray, .agg #[.string c.se, .int .i64 c.nu, .int .i64 c.ve, .int .i64 c.im, .int .i64 c.st, .bool c.en, .string c.be]] w fun e w' => e = .returned (.bool (c.im != x.im)) ∧ Below w.heap.size w w' := by
  have HO : ∀ o o', Hid (Below w.heap.size w ((w.alloc o).alloc o')) := fun o o' => (one_al w o).alloc (by simp) o'
  have FA : ∀ o i, ((w.alloc (.cells lk.toArray 105)).alloc o).cell? ⟨w.heap.size, i, none⟩ = lk.toArray[i]? := fun o i => ((Box.new _ _ _ _ rfl).on (one_al _ _)).cell i
  have f8 : ∀ o, ((w.alloc (.cells lk.toArray 105)).alloc o).cell? ⟨w.heap.size, 8, none⟩ = some (.int .i64 x.im) := fun o => by rw [FA, hlk]; rfl
  clear FA hlk
  go_enter Tryz.func107, Tryz.ntmps107
  go_wp2
  go_ret
  exact ⟨ret_bool (by simp), (HO _ _).out⟩

end
end Go.Proofs.YtpdlcccnlciecaaGreat
