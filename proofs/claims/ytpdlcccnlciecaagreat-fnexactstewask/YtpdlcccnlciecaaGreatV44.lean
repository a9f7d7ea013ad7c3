import Derived.Test.YtpdlcccnlciecaaGreatV24
import Derived.Test.YtpdlcccnlciecaaGreatV34
import Derived.Test.YtpdlcccnlciecaaGreatV36
import Derived.Handy
namespace Go.Proofs.YtpdlcccnlciecaaGreat
open Go.RowKit Go.Deep

/-- may this copy of this service end -/
def mayC (L : List Cp) (x : Sv) (c : Cp) : Bool := !c.en && ((x.gn || (c.st != 3)) || decide (x.wa - x.dn ≤ ct (besQ c) (L.filter (mineB c.se))))
theorem countP_at {X : Type} {L : List X} {k : Nat} (hk : k < L.length) (p : X → Bool) : L.countP p = (L.take k).countP p + ((if p L[k] then 1 else 0) + (L.drop (k + 1)).countP p) := by
  have e : L = L.take k ++ (L[k] :: L.drop (k + 1)) := by rw [List.getElem_cons_drop, List.take_append_drop]
  have : L.countP p = (L.take k ++ (L[k] :: L.drop (k + 1))).countP p := congrArg _ e
  rw [this, List.countP_append, List.countP_cons]
  omega
theorem bes_ct {L : List Cp} (hr : risR aheadB L = true) {k : Nat} (hk : k < L.length) (hl : rdQ L[k] = true) : ct (besQ L[k]) (L.filter (mineB L[k].se)) = ct rdQ (L.filter (mineB L[k].se)) - 1 := by
  have hm : mineB L[k].se L[k] = true := bytes_eq.2 rfl
  rw [ct_filter (q := mineB L[k].se) (p := besQ L[k]) (r := fun y => mineB L[k].se y && besQ L[k] y) (fun _ => rfl), ct_filter (q := mineB L[k].se) (p := rdQ) (r := fun y => mineB L[k].se y && rdQ y) (fun _ => rfl)]
  unfold ct
  rw [countP_at hk (fun y => mineB L[k].se y && besQ L[k] y), countP_at hk (fun y => mineB L[k].se y && rdQ y)]
  have h1 : (L.take k).countP (fun y => mineB L[k].se y && besQ L[k] y) = (L.take k).countP (fun y => mineB L[k].se y && rdQ y) := by
    refine List.countP_congr fun y hy => ?_
    obtain ⟨i, hi, rfl⟩ := List.getElem_of_mem hy
    rw [List.length_take] at hi
    rw [List.getElem_take]
    have ha := ahead_lt hr (show i < L.length by omega) hk (by omega)
    cases hq : mineB L[k].se L[i] with
    | false => simp
    | true =>
      have hne : (L[i].nu != L[k].nu) = true := by
        unfold aheadB at ha
        unfold mineB at hq
        rw [bytes_eq.1 hq, less_irrefl] at ha
        simp at ha
        simp
        omega
      simp [besQ, rdQ, hne]
  have h2 : (L.drop (k + 1)).countP (fun y => mineB L[k].se y && besQ L[k] y) = (L.drop (k + 1)).countP (fun y => mineB L[k].se y && rdQ y) := by
    refine List.countP_congr fun y hy => ?_
    obtain ⟨i, hi, rfl⟩ := List.getElem_of_mem hy
    rw [List.length_drop] at hi
    rw [List.getElem_drop]
    have ha := ahead_lt hr hk (show k + 1 + i < L.length by omega) (by omega)
    cases hq : mineB L[k].se L[k + 1 + i] with
    | false => simp
    | true =>
      have hne : (L[k + 1 + i].nu != L[k].nu) = true := by
        unfold aheadB at ha
        unfold mineB at hq
        rw [bytes_eq.1 hq, less_irrefl] at ha
        simp at ha
        simp
        omega
      simp [besQ, rdQ, hne]
  rw [h1, h2]
  have h3 : besQ L[k] L[k] = false := by simp [besQ]
  simp [h3, hm, hl]
  omega
theorem may_is {B : Sb} (hr : risR aheadB B.cs = true) {s : ByteArray} {n : Int} {k : Nat} (hk : k < B.cs.length) (hc : cpF B.cs s n = some B.cs[k]) {x : Sv} (hx : svF B.ss s = some x) : mayC B.cs x B.cs[k] = mayT B s n := by
  have hs := cpF_se hc
  unfold mayC mayT
  rw [hc, hx]
  dsimp only
  cases h1 : B.cs[k].en with
  | true => rfl
  | false =>
    cases h2 : (B.cs[k].st != 3) with
    | true => simp
    | false =>
      have h3 : rdQ B.cs[k] = true := by
        unfold rdQ
        rw [h1]
        simpa [bne] using h2
      rw [bes_ct hr hk h3, ctL_filter, hs]
      simp

set_option maxRecDepth 100000 in
set_option maxHeartbeats 4000000 in
theorem ruleOf_any (x : Sv) (c : Cp) (w : World) (hw : (0 ≤ x.wa ∧ x.wa ≤ 10) ∧ (0 ≤ x.dn ∧ x.dn ≤ 10)) :
    Calls Tryz.prog 139 #[.agg #[.string x.nm, .int .i64 x.ve, .bool x.gn, .int .i64 x.im, .int .i64 x.wa, .int .i64 x.dn, .int .i64 x.ov, .int .i64 x.nx, .int .i64 x.pr, .int .i64 x.ls, .int .i64 x.ms, .int .i64 x.ld, .int .i64 x.cl], .agg #[.string c.se, .int .i64 c.nu, .int .i64 c.ve, .int .i64 c.im, .int .i64 c.st, .bool c.en, .string c.be]] w fun e w' => e = .returned (if (x.gn || (c.st != 3)) then .iface 177 (.agg #[]) else .iface 179 (.agg #[.int .i64 (x.wa - x.dn)])) ∧ Below w.heap.size w w' := by
  have v0 : IntKind.i64.wrap (x.wa - x.dn) = x.wa - x.dn := by rw [IntWalk.i64_left]; unfold wrap64; omega
  cases h1 : x.gn with
  | true =>
    go_enter Tryz.func139, Tryz.ntmps139
    go_wp2
    go_ret
    exact ⟨rfl, (one_al w _).alloc (by simp) _⟩
  | false =>
    cases h2 : (c.st != 3) with
    | true =>
      go_enter Tryz.func139, Tryz.ntmps139
      go_wp2
      go_ret
      exact ⟨rfl, (one_al w _).alloc (by simp) _⟩
    | false =>
      go_enter Tryz.func139, Tryz.ntmps139
      go_wp2
      go_ret
      exact ⟨rfl, (one_al w _).alloc (by simp) _⟩
theorem freely_any (n : Int) (w : World) :
    Calls Tryz.prog 159 #[.agg #[], .int .i64 n] w fun e w' => e = .returned (.bool true) ∧ Below w.heap.size w w' := by
  go_enter Tryz.func159, Tryz.ntmps159
  go_wp2
  go_ret
  exact ⟨rfl, one_al w _⟩
theorem sparing_any (l n : Int) (w : World) :
    Calls Tryz.prog 160 #[.agg #[.int .i64 l], .int .i64 n] w fun e w' => e = .returned (.bool (decide (l ≤ n))) ∧ Below w.heap.size w w' := by
  go_enter Tryz.func160, Tryz.ntmps160
  go_wp2
  go_ret
  exact ⟨rfl, one_al w _⟩

theorem nilFreely (u : World) : Sem.run Tryz.prog (nilAhead 297 177 (.agg #[]) "loop.example/wharfhall/impl.allows") u = .ok (some false) u := by kernel_rfl
theorem nilSparing (z : Int) (u : World) : Sem.run Tryz.prog (nilAhead 297 179 (.agg #[.int .i64 z]) "loop.example/wharfhall/impl.allows") u = .ok (some false) u := by kernel_rfl
/-- a book, a service and a copy in boxes, above a world -/
abbrev HeldM (W0 : World) (b1 : Nat) (cs1 : Array Value) (b2 : Nat) (cs2 : Array Value) (b3 : Nat) (cs3 : Array Value) (W : World) : Prop :=
  (∀ i, W.cell? ⟨b1, i, none⟩ = cs1[i]?) ∧ (∀ i, W.cell? ⟨b2, i, none⟩ = cs2[i]?) ∧ (∀ i, W.cell? ⟨b3, i, none⟩ = cs3[i]?) ∧ Hid (Below W0.heap.size W0 W ∧ b1 < W0.heap.size ∧ b2 < W0.heap.size ∧ b3 < W0.heap.size)
theorem HeldM.drew {W0 : World} {b1 b2 b3 : Nat} {cs1 cs2 cs3 : Array Value} (h1 : Box W0 b1 cs1) (h2 : Box W0 b2 cs2) (h3 : Box W0 b3 cs3) : HeldM W0 b1 cs1 b2 cs2 b3 cs3 W0.drew := ⟨h1.cell, h2.cell, h3.cell, (Below.refl _ _).drew, h1.lt, h2.lt, h3.lt⟩
theorem HeldM.on {W0 W W' : World} {b1 b2 b3 : Nat} {cs1 cs2 cs3 : Array Value} (h : HeldM W0 b1 cs1 b2 cs2 b3 cs3 W) (hb : Below W.heap.size W W') : HeldM W0 b1 cs1 b2 cs2 b3 cs3 W' := by
  obtain ⟨h1, h2, h3, h4⟩ := h
  obtain ⟨h4, l1, l2, l3⟩ := h4.out
  have hz := h4.size
  exact ⟨fun i => (hb.cell (p := ⟨b1, i, none⟩) (by simp only []; omega)).trans (h1 i), fun i => (hb.cell (p := ⟨b2, i, none⟩) (by simp only []; omega)).trans (h2 i), fun i => (hb.cell (p := ⟨b3, i, none⟩) (by simp only []; omega)).trans (h3 i), h4.trans (hb.mono hz), l1, l2, l3⟩

set_option maxRecDepth 100000 in
set_option maxHeartbeats 8000000 in
theorem mayAt_any (lo : Nat) (now : Int) (sv cv bv : Value) (L : List Cp) (x : Sv) (k : Nat) (hk : k < L.length) (w : World) (hL : CpsAt lo w cv L) (n1 : L.length ≤ 1048576) (hr : risR aheadB L = true) (hnu : ∀ i (h : i < L.length), 1 ≤ L[i].nu) (h0 : ∃ a n k, sv = .slice a n k) (h2 : ∃ a n k, bv = .slice a n k) (hw : (0 ≤ x.wa ∧ x.wa ≤ 10) ∧ (0 ≤ x.dn ∧ x.dn ≤ 10)) :
    Calls Tryz.prog 131 #[.agg #[.int .i64 now, sv, cv, bv], .agg #[.string x.nm, .int .i64 x.ve, .bool x.gn, .int .i64 x.im, .int .i64 x.wa, .int .i64 x.dn, .int .i64 x.ov, .int .i64 x.nx, .int .i64 x.pr, .int .i64 x.ls, .int .i64 x.ms, .int .i64 x.ld, .int .i64 x.cl], .int .i64 k] w fun e w' => e = .returned (.bool (mayC L x L[k])) ∧ Below w.heap.size w w' := by
  have HL := hide hL
  have HR := hide hr
  have HNU := hide hnu
  have HW := hide hw
  obtain ⟨a0, n0, k0, rfl⟩ := h0
  obtain ⟨a2, n2, k2, rfl⟩ := h2
  obtain ⟨b, off, cap, rfl, hbw, hc⟩ : ∃ b off cap, cv = .slice (some ⟨b, off, none⟩) L.length cap ∧ b < w.heap.size ∧ CpCells w b (off + k * 7) L[k] := by
    obtain ⟨a1, k1, rfl⟩ := hL.form
    obtain ⟨b, off, rfl, hbw, -, hc⟩ := hL.full' (by omega)
    exact ⟨b, off, k1, rfl, hbw, (hc k hk).2⟩
  have HC := hide hc
  have i0 : (0 : Int) ≤ (k : Int) := by omega
  have i1 : (k : Int) < (L.length : Int) := by omega
  clear hL hr hnu hw hc
  go_enter Tryz.func131, Tryz.ntmps131
  have hc1 : ∀ o o', CpCells ((w.alloc o).alloc o') b (off + k * 7) L[k] := fun o o' => HC.out.below ((one_al w o).alloc (by simp) o') hbw
  obtain ⟨c, hcc⟩ : ∃ c, c = L[k] := ⟨_, rfl⟩
  rw [← hcc] at hc1
  have c0 := fun o o' => (hc1 o o').c0
  have c1 := fun o o' => (hc1 o o').c1
  have c2 := fun o o' => (hc1 o o').c2
  have c3 := fun o o' => (hc1 o o').c3
  have c4 := fun o o' => (hc1 o o').c4
  have c5 := fun o o' => (hc1 o o').c5
  have c6 := fun o o' => (hc1 o o').c6
  rw [← hcc]
  have HCC := hide hcc
  clear hc1 hcc
  go_wp2_with fail
  clear c0 c1 c2 c3 c4 c5 c6
  generalize hWa : World.alloc (World.alloc (w.alloc _) _) _ = Wa
  have HB0 : Hid (Below w.heap.size w Wa) := by rw [← hWa]; exact ((one_al w _).alloc (by simp) _).alloc (by simp; omega) _
  have F1 : Hid (Box Wa w.heap.size #[.int .i64 now, .slice a0 n0 k0, .slice (some ⟨b, off, none⟩) L.length cap, .slice a2 n2 k2]) := by rw [← hWa]; exact ((Box.new _ _ _ _ rfl).on (one_al _ _)).on (one_al _ _)
  have F2 : Hid (Box Wa (w.heap.size + 1) #[.string x.nm, .int .i64 x.ve, .bool x.gn, .int .i64 x.im, .int .i64 x.wa, .int .i64 x.dn, .int .i64 x.ov, .int .i64 x.nx, .int .i64 x.pr, .int .i64 x.ls, .int .i64 x.ms, .int .i64 x.ld, .int .i64 x.cl]) := by rw [← hWa]; exact (Box.new _ _ _ _ (by simp)).on (one_al _ _)
  have F3 : Hid (Box Wa (w.heap.size + 1 + 1) #[.string c.se, .int .i64 c.nu, .int .i64 c.ve, .int .i64 c.im, .int .i64 c.st, .bool c.en, .string c.be]) := by
    unfold Hid
    rw [← hWa]
    exact Box.new _ _ _ _ (by simp)
  clear hWa
  cases he : c.en with
  | true =>
    have HE : Hid (mayC L x c = false) := by unfold Hid mayC; rw [he]; rfl
    have xn : Nonempty (In (Up Wa)) := ⟨⟨Wa, Below.refl _ _⟩⟩
    have xs := fun (X : In (Up Wa)) => in_self X
    have x5 : ∀ X : In (Up Wa), X.w.cell? ⟨w.heap.size + 1 + 1, 5, none⟩ = some (.bool true) := fun X => Up.cell X (by rw [F3.out.cell 5, ← he]; rfl)
    refine wp_region_class (Up Wa) (by kernel_rfl) (by kernel_rfl) ((Below.refl _ _).drew) ?_
    repeat (go_big_quiet_step (fail))
    refine wpQuiet_nil ?_
    intro wn hw
    obtain ⟨X, hX⟩ := hw
    have HWN : Hid (Below Wa.heap.size Wa wn) := by unfold Hid; rw [hX]; exact X.h
    clear hX X x5 xs xn
    go_wp2
    go_ret
    exact ⟨ret_bool HE.out.symm, bt HB0.out HWN.out⟩
  | false =>
    rw [he] at F3
    cases hq : (x.gn || (c.st != 3)) with
    | true =>
      have HE : Hid (mayC L x c = true) := by unfold Hid mayC; rw [he, hq]; rfl
      have hna := nilFreely
      go_region_held3 (HeldM Wa w.heap.size #[.int .i64 now, .slice a0 n0 k0, .slice (some ⟨b, off, none⟩) L.length cap, .slice a2 n2 k2] (w.heap.size + 1) #[.string x.nm, .int .i64 x.ve, .bool x.gn, .int .i64 x.im, .int .i64 x.wa, .int .i64 x.dn, .int .i64 x.ov, .int .i64 x.nx, .int .i64 x.pr, .int .i64 x.ls, .int .i64 x.ms, .int .i64 x.ld, .int .i64 x.cl] (w.heap.size + 1 + 1) #[.string c.se, .int .i64 c.nu, .int .i64 c.ve, .int .i64 c.im, .int .i64 c.st, .bool false, .string c.be])
        (first
          | (with_reducible exact HeldM.drew F1.out F2.out F3.out)
          | (with_reducible exact HeldM.on (by assumption) (by assumption))
          | assumption)
        (first
          | (go_at_call 139
             refine (ruleOf_any x ⟨c.se, c.nu, c.ve, c.im, c.st, false, c.be⟩ _ HW.out).mono ?_
             rintro e w1 ⟨h1e, hb1⟩
             dsimp only at h1e
             rw [hq] at h1e
             rw [if_pos rfl] at h1e
             subst h1e
             have C1 : Hid (Below Wa.heap.size Wa w1) := bt ((Below.refl _ _).drew) hb1)
          | (go_at_call 140
             refine (beside_any lo now _ _ _ L ⟨c.se, c.nu, c.ve, c.im, c.st, false, c.be⟩ _ (HL.out.below (bt HB0.out C1.out)) n1 HR.out HNU.out ⟨_, _, _, rfl⟩ ⟨_, _, _, rfl⟩).mono ?_
             rintro e w2 ⟨z, rfl, -, hb2⟩
             have C2 : Hid (Below Wa.heap.size Wa w2) := bt C1.out hb2)
          | (go_at_call 159
             refine (freely_any _ _).mono ?_
             rintro e w3 ⟨rfl, hb3⟩
             have C3 : Hid (Below Wa.heap.size Wa w3) := bt C2.out hb3))
      all_goals
        go_wp2
        go_ret
        exact ⟨ret_bool HE.out.symm, bt HB0.out C3.out⟩
    | false =>
      have HE : Hid (mayC L x c = decide (x.wa - x.dn ≤ ct (besQ c) (L.filter (mineB c.se)))) := by unfold Hid mayC; rw [he, hq]; rfl
      have hna := nilSparing (x.wa - x.dn)
      have HCT : Hid (ct (besQ ⟨c.se, c.nu, c.ve, c.im, c.st, false, c.be⟩) (L.filter (mineB c.se)) = ct (besQ c) (L.filter (mineB c.se))) := rfl
      go_region_held3 (HeldM Wa w.heap.size #[.int .i64 now, .slice a0 n0 k0, .slice (some ⟨b, off, none⟩) L.length cap, .slice a2 n2 k2] (w.heap.size + 1) #[.string x.nm, .int .i64 x.ve, .bool x.gn, .int .i64 x.im, .int .i64 x.wa, .int .i64 x.dn, .int .i64 x.ov, .int .i64 x.nx, .int .i64 x.pr, .int .i64 x.ls, .int .i64 x.ms, .int .i64 x.ld, .int .i64 x.cl] (w.heap.size + 1 + 1) #[.string c.se, .int .i64 c.nu, .int .i64 c.ve, .int .i64 c.im, .int .i64 c.st, .bool false, .string c.be])
        (first
          | (with_reducible exact HeldM.drew F1.out F2.out F3.out)
          | (with_reducible exact HeldM.on (by assumption) (by assumption))
          | assumption)
        (first
          | (go_at_call 139
             refine (ruleOf_any x ⟨c.se, c.nu, c.ve, c.im, c.st, false, c.be⟩ _ HW.out).mono ?_
             rintro e w1 ⟨h1e, hb1⟩
             dsimp only at h1e
             rw [hq] at h1e
             rw [if_neg Bool.false_ne_true] at h1e
             subst h1e
             have C1 : Hid (Below Wa.heap.size Wa w1) := bt ((Below.refl _ _).drew) hb1)
          | (go_at_call 140
             refine (beside_any lo now _ _ _ L ⟨c.se, c.nu, c.ve, c.im, c.st, false, c.be⟩ _ (HL.out.below (bt HB0.out C1.out)) n1 HR.out HNU.out ⟨_, _, _, rfl⟩ ⟨_, _, _, rfl⟩).mono ?_
             rintro e w2 ⟨z, rfl, hz, hb2⟩
             have C2 : Hid (Below Wa.heap.size Wa w2) := bt C1.out hb2)
          | (go_at_call 160
             refine (sparing_any _ _ _).mono ?_
             rintro e w3 ⟨rfl, hb3⟩
             have C3 : Hid (Below Wa.heap.size Wa w3) := bt C2.out hb3))
      all_goals
        go_wp2
        go_ret
        exact ⟨ret_bool (by rw [HE.out, hz.out, HCT.out]), bt HB0.out C3.out⟩
end Go.Proofs.YtpdlcccnlciecaaGreat
namespace Go.Proofs.YtpdlcccnlciecaaGreat
open Go.RowKit Go.Deep

set_option maxRecDepth 100000 in
theorem compareYes_any (a b : Bool) (w : World) :
    Calls Tryz.prog 130 #[.bool a, .bool b] w fun e w' => e = .returned (.int .i64 (yesI a b)) ∧ Below w.heap.size w w' := by
  go_enter Tryz.func130, Tryz.ntmps130
  cases a <;> cases b
  all_goals
    go_wp2
    go_ret
    exact ⟨rfl, Below.refl _ _⟩

theorem cpF_some {L : List Cp} {c : Cp} (h : c ∈ L) : cpF L c.se c.nu ≠ none := by
  unfold cpF
  intro e
  rw [List.find?_eq_none] at e
  exact e c h (cpIs_iff.2 ⟨rfl, rfl⟩)

section
variable (lo m : Nat) (sv cv bv : Value) (B : Sb) (x : Sv) (n : Ct) (d : Int) (lk : List Value) (c : Cp) (w : World)

set_option maxRecDepth 100000 in
set_option maxHeartbeats 4000000 in
theorem lookMay_any (hlk : LkIs lk m sv cv bv B x n d) (h : SbAt lo w sv cv bv B) (hm : c ∈ B.cs) (hx : svF B.ss c.se = some x) (h200 : B.cs.length ≤ 200) (hr : risR aheadB B.cs = true) (hnu : ∀ i (h : i < B.cs.length), 1 ≤ B.cs[i].nu) (hw : (0 ≤ x.wa ∧ x.wa ≤ 10) ∧ (0 ≤ x.dn ∧ x.dn ≤ 10)) :
    Calls Tryz.prog 104 #[.agg lk.toArray, .agg #[.string c.se, .int .i64 c.nu, .int .i64 c.ve, .int .i64 c.im, .int .i64 c.st, .bool c.en, .string c.be]] w fun e w' => e = .returned (.bool (mayT B c.se c.nu)) ∧ Below w.heap.size w w' := by
  have HK := hide h
  have HM := hide hm
  have HX := hide hx
  have HR := hide hr
  have HNU := hide hnu
  have HW := hide hw
  have h2 := h200
  obtain ⟨a0, k0, rfl⟩ := h.svs.form
  obtain ⟨a1, k1, rfl⟩ := h.cps.form
  obtain ⟨a2, k2, rfl⟩ := h.bes.form
  unfold LkIs at hlk
  clear h hm hx hr hnu hw h200
  subst hlk
  go_enter Tryz.func104, Tryz.ntmps104
  go_wp2_with fail
  generalize hWa : World.alloc (w.alloc _) _ = Wa
  have HB0 : Hid (Below w.heap.size w Wa) := by rw [← hWa]; exact (one_al w _).alloc (by simp) _
  have FA0 : Hid (Box Wa w.heap.size #[.int .i64 B.now, .slice a0 B.ss.length k0, .slice a1 B.cs.length k1, .slice a2 B.bs.length k2, .map (some m), .string x.nm, .int .i64 x.ve, .bool x.gn, .int .i64 x.im, .int .i64 x.wa, .int .i64 x.dn, .int .i64 x.ov, .int .i64 x.nx, .int .i64 x.pr, .int .i64 x.ls, .int .i64 x.ms, .int .i64 x.ld, .int .i64 x.cl, .int .i64 n.li, .int .i64 n.re, .int .i64 n.ol, .int .i64 n.fa, .int .i64 n.en, .int .i64 d]) := by rw [← hWa]; exact (Box.new _ _ _ _ rfl).on (one_al _ _)
  clear hWa
  refine (copyPlace_any lo B.now _ _ _ B.cs c.se c.nu _ (HK.out.below HB0.out).cps (by omega) HR.out ⟨_, _, _, rfl⟩ ⟨_, _, _, rfl⟩).mono ?_
  rintro e w3 ⟨⟨p, hsp, rfl⟩, hb3⟩
  have HB3 := hide (bt HB0.out hb3)
  have FA3 := hide (FA0.out.on hb3)
  have HCI := hide (cp_is HR.out hsp)
  clear hb3 hsp HB0 FA0
  rcases HCI.out with ⟨ht, hn⟩ | ⟨ht, hp, hc, -, -, -⟩
  · exact absurd hn (cpF_some HM.out)
  · have HE : Hid (mayT B c.se c.nu = mayC B.cs x B.cs[p]) := (may_is HR.out hp hc HX.out).symm
    rw [ht]
    have g1 := FA3.out.cell
    clear hc ht HCI
    go_wp2_with fail
    refine (mayAt_any lo B.now _ _ _ B.cs x p hp _ (HK.out.below HB3.out).cps (by omega) HR.out HNU.out ⟨_, _, _, rfl⟩ ⟨_, _, _, rfl⟩ HW.out).mono ?_
    rintro e w4 ⟨rfl, hb4⟩
    have HB4 := hide (bt HB3.out hb4)
    clear hb4 g1
    go_wp2
    go_ret
    exact ⟨ret_bool HE.out.symm, HB4.out⟩
end
end Go.Proofs.YtpdlcccnlciecaaGreat
