import Derived.Test.YtjkkbkdpoebfaaaGreatV22
import Derived.OrdersHeld
import Derived.Deep.RegionHeld3
namespace Go.Proofs.YtjkkbkdpoebfaaaGreat
open Go.RowKit Go.Deep

theorem OwnS.inn {base : Nat} {W : World} {v : Value} {R : List ByteArray} (h : OwnS base W v R) : StrsIn base W v R := by
  rcases h.row.2 with ⟨hv, hn⟩ | ⟨g, cap, cur, hv, h1, h2, h3, h4, h5, h6⟩
  · exact Or.inl ⟨none, 0, hv, List.length_eq_zero_iff.1 hn⟩
  · rcases h.strs with ⟨a, c, e, hR⟩ | ⟨b, off, c, e, hR, hm, hb, hc, hs⟩
    · exact Or.inl ⟨a, c, e, hR⟩
    · rw [hv] at e
      cases e
      exact Or.inr ⟨g, 0, cap, hv, hR, hm, hb, hc, hs, h1⟩
section
variable (lo ρ p : Nat) (bs : List UInt8) (nm tt df we : ByteArray) (le mo ro : Int) (mu fx : Bool) (wv : Value) (words : List ByteArray) (a0 a1 a2 : Int) (ov g1 g2 g3 : Value) (L : List (ByteArray × ByteArray)) (w : World)
set_option maxRecDepth 20000 in
set_option maxHeartbeats 4000000 in
theorem l1Fit0_any (kd : Int) (hk1 : kd ≠ 1) (hk2 : kd ≠ 2) (hk3 : kd ≠ 3) (hO : KnAt ρ w ov L) (hL : L.length ≤ 10) (hLs : ∀ x ∈ L, x.2.size ≤ 1000) (h : Rd w ρ p bs) (hp : p ≤ 900000000) :
    Calls Tryz.prog 86 #[.pointer (some ⟨ρ, 0, none⟩), .agg #[.string nm, .int .i64 (kd), .int .i64 le, .int .i64 mo, wv, .string tt, .int .i64 ro, .bool mu, .bool fx, .string df, .string we], .agg #[.int .i64 a0, .int .i64 a1, .int .i64 a2, ov, g1, g2, g3]] w (FitTo ρ p bs w) := by
  obtain ⟨i0, hi, hz0, hz1, hz2⟩ := info_parts Tryz.info9
  have HI := hide (And.intro hi (And.intro hz0 (And.intro hz1 hz2)))
  have HO := hide hO
  have HLS := hide hLs
  obtain ⟨oa, oc, rfl⟩ := hO.form
  clear hi hz0 hz1 hz2 hO hLs
  have hk1' : (kd == 1) = false := by rw [beq_eq_false_iff_ne]; exact hk1
  have hk2' : (kd == 2) = false := by rw [beq_eq_false_iff_ne]; exact hk2
  have hk3' : (kd == 3) = false := by rw [beq_eq_false_iff_ne]; exact hk3
  clear hk1 hk2 hk3
  have HRD := hide h
  have hlt := h.lt
  clear h
  go_enter Tryz.func86, Tryz.ntmps86
  go_wp2
  generalize hWa : World.alloc (World.alloc w _) _ = w1
  have HB : Hid (Below w.heap.size w w1) := by unfold Hid; rw [← hWa]; exact (one_al w _).alloc (by simp) _
  have FX : Hid (Box w1 w.heap.size #[.string nm, .int .i64 (kd), .int .i64 le, .int .i64 mo, wv, .string tt, .int .i64 ro, .bool mu, .bool fx, .string df, .string we]) := by unfold Hid; rw [← hWa]; exact (Box.new _ _ _ _ rfl).on (one_al _ _)
  have FB : Hid (Box w1 (w.heap.size + 1) #[.int .i64 a0, .int .i64 a1, .int .i64 a2, .slice oa L.length oc, g1, g2, g3]) := by unfold Hid; rw [← hWa]; exact Box.new _ _ _ _ (by simp)
  have HSZ1 : Hid (w1.heap.size = w.heap.size + 2) := by unfold Hid; rw [← hWa]; simp
  clear hWa
  replace HRD := hide (HRD.out.below HB.out)
  have hsz := HSZ1.out
  go_loopw [7, 8] (fun v i wr => ∃ (n : Nat) (R : List ByteArray), i = .int .i64 n ∧ n ≤ L.length ∧ R.length ≤ n ∧ OwnS (w.heap.size + 2) wr v R ∧ Below (w.heap.size + 2) w1 wr ∧ ∀ s ∈ R, s.size ≤ 1000) (fun _ i _ => L.length - (intOf i).toNat)
  case atStart => exact ⟨0, [], rfl, by omega, by simp, OwnS.made w1 _ hsz (Nat.le_refl _), (Below.refl _ _).alloc (by omega) _, fun s h => by cases h⟩
  case round =>
    obtain ⟨n, R, rfl, hn, hRn, hown, hb, hrs⟩ := hrel
    have HOW := hide hown
    have HBR := hide hb
    have HRS := hide hrs
    obtain ⟨va, vcap, rfl⟩ := hown.form
    have HBx := hide (FB.out.below hb (by omega))
    have HFx := hide (FX.out.below hb (by omega))
    have hzr : w.heap.size + 2 ≤ wr.heap.size := by have := hb.size; omega
    clear hown hb hrs
    have b3 : wr.cell? ⟨w.heap.size + 1, 3, none⟩ = some (.slice oa L.length oc) := HBx.out.cell 3
    have f5 : wr.cell? ⟨w.heap.size, 5, none⟩ = some (.string tt) := HFx.out.cell 5
    by_cases hnl : n < L.length
    · rcases HO.out with ⟨_, _, _, e⟩ | ⟨ob, oo, oc', e, _, hob, hobn, hcs⟩
      · rw [e] at hnl; simp at hnl
      cases e
      have hbw : Below w.heap.size w wr := HB.out.trans (HBR.out.mono (by omega))
      have k0 : wr.cell? ⟨ob, oo + n * 7, none⟩ = some (.string L[n].1) := by rw [hbw.cell (p := ⟨ob, _, none⟩) hob]; exact (hcs n hnl).1
      have k1 : wr.cell? ⟨ob, oo + n * 7 + 1, none⟩ = some (.string L[n].2) := by rw [hbw.cell (p := ⟨ob, _, none⟩) hob]; exact (hcs n hnl).2
      have HL2 : Hid (L[n].2.size ≤ 1000) := HLS.out _ (List.getElem_mem hnl)
      clear hcs hbw
      generalize L[n].1 = kn at *
      generalize L[n].2 = nn at *
      have hnl' : (n : Int) < (L.length : Int) := by omega
      have hn0 : (0 : Int) ≤ (n : Int) := by omega
      obtain ⟨bq, hbq⟩ : ∃ bq, (kn.toList == tt.toList) = bq := ⟨_, rfl⟩
      go_wp2
      go_quiet (fail)
      have hd2 : Below wr.heap.size wr (wr.drewN nq) := below_drewN (Below.refl _ _) _
      generalize wr.drewN nq = w2 at *
      have hz2 := hd2.size
      have HO2 := hide (HOW.out.below hd2)
      have HB2 : Hid (Below (w.heap.size + 2) w1 w2) := HBR.out.trans (hd2.mono hzr)
      have b3' : w2.cell? ⟨w.heap.size + 1, 3, none⟩ = some (.slice (some ⟨ob, oo, none⟩) L.length oc) := by rw [hd2.cell (p := ⟨w.heap.size + 1, 3, none⟩) (by show w.heap.size + 1 < _; omega)]; exact b3
      have k1' : w2.cell? ⟨ob, oo + n * 7 + 1, none⟩ = some (.string nn) := by rw [hd2.cell (p := ⟨ob, _, none⟩) (by show ob < _; omega)]; exact k1
      clear hd2 b3 k0 k1 f5 HBx HFx
      have hbq' := hbq
      clear hbq
      cases bq with
      | false =>
        go_wp2
        go_roundw
        case rel => exact ⟨n + 1, R, by go_num, by omega, by omega, HO2.out, HB2.out, HRS.out⟩
        case measure => simp [intOf]; omega
      | true =>
        go_wp2_with (at_builtin; refine wpList_append_lies _ rfl (.tmp 80) (.tmp 87) 25 rfl (w.heap.size + 2) 9 i0 (.string ⟨#[]⟩) 1 16 Tryz.underlying25 HI.out.1 HI.out.2.1 HI.out.2.2.1 HI.out.2.2.2 rfl (by decide) _ _ _ rfl (HO2.out.below ((Below.refl _ _).alloc (Nat.le_refl _) _)).row ⟨w2.heap.size, 0, none⟩ 1 1 [.string nn] rfl rfl (cell_new1 _ _ _ _ rfl) (one_oneCell _) (by decide) (by unfold maxLen; omega) (by omega) (by simp; omega) _ rfl ?_; intro g cap1 w3 hown3 hgrow3 hat3 hlt3)
        have HRS2 : Hid (∀ s ∈ R ++ [nn], s.size ≤ 1000) := fun s hs => by
          rcases List.mem_append.1 hs with h1 | h1
          · exact HRS.out s h1
          · rw [List.mem_singleton.1 h1]; exact HL2.out
        go_roundw
        case rel => exact ⟨n + 1, R ++ [nn], by go_num, by omega, by simp; omega, HO2.out.snoc hown3 (by have := HL2.out; unfold maxLen; omega), (HB2.out.alloc (by omega) _).trans ((HO2.out.below ((Below.refl _ _).alloc (Nat.le_refl _) _)).grown hgrow3 (by simp; omega)), HRS2.out⟩
        case measure => simp [intOf]; omega
    · have hBR : Below w1.heap.size w1 wr := by rw [hsz]; exact HBR.out
      have HR1 := hide (HRD.out.below hBR)
      have HT1 : Hid (Tch ρ w wr) := (Tch.below HB.out).trans (Tch.below hBR)
      clear hBR f5 HBx HFx
      by_cases hR : R.length = 0
      · have hR' : (R.length : Int) = 0 := by omega
        go_wp2
        go_ret
        exact ⟨⟨#[]⟩, rfl, by decide, ⟨p, by omega, by omega, HR1.out⟩, HT1.out⟩
      · have hR' : ¬ ((R.length : Int) = 0) := by omega
        go_wp2_with fail
        refine (ofAt_any (w.heap.size + 2) ρ p bs _ R _ HR1.out (by omega) HOW.out.inn (by omega) (by omega) (by omega)).mono ?_
        rintro e w2 ⟨⟨s, rfl, hs⟩, hr, ht⟩
        have HS := hide (HRS.out _ hs)
        have HX := hide (And.intro hr ht)
        clear hs hr ht
        go_wp2
        go_ret
        exact ⟨s, rfl, by have := HS.out; omega, ⟨p + 1, by omega, by omega, HX.out.1⟩, HT1.out.trans HX.out.2⟩
end
end Go.Proofs.YtjkkbkdpoebfaaaGreat
namespace Go.Proofs.YtjkkbkdpoebfaaaGreat
open Go.RowKit Go.Deep

/-! a region that draws, with operations B that break what the loads read (S): whatever is taken first is waited for by all of B -/
section
variable {P : Program} {ops : Array Oper} {Q : Exit → Act → World → Prop} {md : Region.Mode} {S : World → Prop} {B : List Nat}

/-- whatever order is picked, and S holds behind every operation but those of B -/
def wpAnyB (P : Program) (md : Region.Mode) (ops : Array Oper) (Q : Exit → Act → World → Prop) (S : World → Prop) (B : List Nat) : Nat → Array Bool → Act → World → Prop
  | 0, listed, a, w => Region.ready md ops listed = [] ∧ Q .normal a w
  | fuel + 1, listed, a, w =>
    (Region.ready md ops listed = [] → Q .normal a w) ∧
    ∀ i ∈ Region.ready md ops listed, wpOp P ops Q i (fun a' w' => (i ∉ B → S w') ∧ wpAnyB P md ops Q S B fuel (listed.setIfInBounds i true) a' w') a w
theorem wpAny_of_B : ∀ (fuel : Nat) (listed : Array Bool) (a : Act) (w : World), wpAnyB P md ops Q S B fuel listed a w → wpAny P md ops Q fuel listed a w
  | 0, _, _, _, h => h
  | fuel + 1, _, _, _, h => ⟨h.1, fun i hi => wpOp_mono (fun a' w' h' => wpAny_of_B fuel _ a' w' h'.2) (h.2 i hi)⟩
/-- each of D waits for i, or for one of D -/
def waitsB (md : Region.Mode) (ops : Array Oper) (i : Nat) (D : List Nat) : Bool := D.all fun j => match ops[j]? with
  | some oj => oj.after.any fun e => Region.binds md e && ((e.on == i) || D.contains e.on)
  | none => false
theorem waitsB_no {listed : Array Bool} {i : Nat} {D : List Nat} (hD : waitsB md ops i D = true) (hi : listed.getD i true = false) (hun : ∀ j ∈ D, listed.getD j true = false) {j : Nat} (hj : j ∈ Region.ready md ops listed) : j ∉ D := by
  intro hjD
  unfold waitsB at hD
  rw [List.all_eq_true] at hD
  have h1 := hD j hjD
  obtain ⟨-, oj, hoj, hall⟩ := mem_ready.1 hj
  rw [hoj] at h1
  simp only [Array.any_eq_true] at h1
  obtain ⟨k, hk, he⟩ := h1
  rw [Bool.and_eq_true, Bool.or_eq_true, beq_iff_eq] at he
  have h2 := hall _ (Array.getElem_mem hk) he.1
  have h3 : listed.getD (oj.after[k]).on true = false := by
    rcases he.2 with h | h
    · rw [h]; exact hi
    · exact hun _ (by simpa using h)
  rcases Nat.lt_or_ge (oj.after[k]).on listed.size with h' | h'
  · simp [h'] at h2 h3; rw [h3] at h2; cases h2
  · simp [Array.getElem?_eq_none h'] at h2
theorem wpAnyB_first {i : Nat} {oi : Oper} {v : Value} {D : List Nat} (hi : ops[i]? = some oi) (hsel : ∀ (j : Nat) (o : Oper) cs b, ops[j]? = some o → o.op ≠ .select cs b)
    (hQ : ∀ c a w, Q (.panic c) (a.put oi.dst v) w → Q (.panic c) a w) (hD : waitsB md ops i D = true) (hl : ∀ b ∈ B, b ∈ D) (hil : i ∉ B) (hiD : i ∉ D) :
    ∀ (fuel : Nat) (listed : Array Bool) (a : Act) (w : World),
      (∀ j oj, ops[j]? = some oj → j ≠ i → listed.getD j true = false → (∀ e ∈ oj.after, Region.binds md e = true → e.on ≠ i) → oi.apart ops oj = true) →
      (∀ j ∈ D, listed.getD j true = false) →
      i ∈ Region.ready md ops listed → YieldsIf P ops S oi v a → S w →
      wpAnyB P md ops Q S B fuel (listed.setIfInBounds i true) (a.put oi.dst v) w → wpAnyB P md ops Q S B (fuel + 1) listed a w := by
  intro fuel
  induction fuel with
  | zero =>
    intro listed a w _ _ hr hy hS H
    refine ⟨fun h => (by rw [h] at hr; cases hr), fun j hj => ?_⟩
    by_cases hji : j = i
    · subst hji; exact hy.wpOp hi hS ⟨fun _ => hS, H⟩
    · have := ready_mono hj hji
      rw [H.1] at this
      cases this
  | succ fuel ih =>
    intro listed a w hfree hun hr hy hS H
    refine ⟨fun h => (by rw [h] at hr; cases hr), fun j hj => ?_⟩
    by_cases hji : j = i
    · subst hji; exact hy.wpOp hi hS ⟨fun _ => hS, H⟩
    · have hjD : j ∉ D := waitsB_no hD (mem_ready.1 hr).1 hun hj
      have hjl : j ∉ B := fun e => hjD (hl j e)
      have h1 := H.2 j (ready_mono hj hji)
      obtain ⟨hjun, oj, hoj, hall⟩ := mem_ready.1 hj
      have hnot : ∀ e ∈ oj.after, Region.binds md e = true → e.on ≠ i := fun e he hb heq => by
        have h1 := hall e he hb
        have h0 := (mem_ready.1 hr).1
        rw [heq] at h1
        rcases Nat.lt_or_ge i listed.size with h' | h'
        · simp [h'] at h0 h1; rw [h0] at h1; cases h1
        · simp [Array.getElem?_eq_none h'] at h1
      have h2 := wpOp_putIf hoj (hfree j oj hoj hji hjun hnot) (fun cs b => hsel i oi cs b hi) (fun cs b => hsel j oj cs b hoj) hQ hy h1
      have hfree' : ∀ k ok, ops[k]? = some ok → k ≠ i → (listed.setIfInBounds j true).getD k true = false →
          (∀ e ∈ ok.after, Region.binds md e = true → e.on ≠ i) → oi.apart ops ok = true := fun k ok hk hki hun hno => by
        refine hfree k ok hk hki ?_ hno
        by_cases hjk : j = k
        · subst hjk; exact hjun
        · rw [getD_set_ne true hjk] at hun; exact hun
      have hun' : ∀ k ∈ D, (listed.setIfInBounds j true).getD k true = false := fun k hk => by
        rw [getD_set_ne true (fun e => hjD (by rw [e]; exact hk))]
        exact hun k hk
      refine wpOp_mono (fun a' w' h3 => ⟨h3.2.1, ih (listed.setIfInBounds j true) a' w' hfree' hun' (ready_mono hr (Ne.symm hji)) h3.1 (h3.2.1 hjl) ?_⟩) h2
      rw [Array.setIfInBounds_comm _ _ hji]
      exact h3.2.2
theorem wpAnyB_take (D : List Nat) {i : Nat} {oi : Oper} {v : Value} {fuel : Nat} {listed : Array Bool} {a : Act} {w : World} (hi : ops[i]? = some oi)
    (hs : Region.noSelect ops = true) (hf : Region.free md ops listed i = true) (hr : (Region.ready md ops listed).contains i = true)
    (hD : (waitsB md ops i D && (B.all fun b => D.contains b) && !(B.contains i) && !D.contains i && D.all fun j => !listed.getD j true) = true)
    (hQ : ∀ c a w, Q (.panic c) (a.put oi.dst v) w → Q (.panic c) a w) (hy : YieldsIf P ops S oi v a) (hS : S w)
    (h : wpAnyB P md ops Q S B fuel (listed.setIfInBounds i true) (a.put oi.dst v) w) : wpAnyB P md ops Q S B (fuel + 1) listed a w := by
  simp only [Bool.and_eq_true, Bool.not_eq_true', List.all_eq_true] at hD
  obtain ⟨⟨⟨⟨h1, h2⟩, h3⟩, h4⟩, h5⟩ := hD
  exact wpAnyB_first hi (Region.noSelect_spec hs) hQ h1 (fun b hb => by simpa using h2 b hb) (by simpa using h3) (by simpa using h4) fuel listed a w (Region.free_spec hi hf) h5 (by simpa using hr) hy hS h
/-- one operation comes up -/
theorem wpAnyB_one {i : Nat} {o : Oper} {fuel : Nat} {listed : Array Bool} {a : Act} {w : World} (hr : Region.ready md ops listed = [i]) (ho : ops[i]? = some o)
    (h : ∀ K' : Act → World → Prop, Shut (∀ a w, (i ∉ B → S w) → ((i ∉ B → S w) → wpAnyB P md ops Q S B fuel (listed.setIfInBounds i true) a w) → K' a w) → if Region.wanted o (yielded ops a.tmps) = true then Oper.wp P o a w K' Q else K' (a.put o.dst undef) w) : wpAnyB P md ops Q S B (fuel + 1) listed a w := by
  refine ⟨fun h0 => (by rw [hr] at h0; cases h0), fun j hj => ?_⟩
  rw [hr] at hj
  have := List.mem_singleton.1 hj
  subst this
  exact wpOp_step ho fun K' hK => h K' fun a w hS hW => hK a w ⟨hS, hW hS⟩
theorem wpAnyB_two {i i' : Nat} {o o' : Oper} {fuel : Nat} {listed : Array Bool} {a : Act} {w : World} (hr : Region.ready md ops listed = [i, i']) (ho : ops[i]? = some o) (ho' : ops[i']? = some o')
    (h : ∀ K' : Act → World → Prop, Shut (∀ a w, (i ∉ B → S w) → ((i ∉ B → S w) → wpAnyB P md ops Q S B fuel (listed.setIfInBounds i true) a w) → K' a w) → if Region.wanted o (yielded ops a.tmps) = true then Oper.wp P o a w K' Q else K' (a.put o.dst undef) w)
    (h' : ∀ K' : Act → World → Prop, Shut (∀ a w, (i' ∉ B → S w) → ((i' ∉ B → S w) → wpAnyB P md ops Q S B fuel (listed.setIfInBounds i' true) a w) → K' a w) → if Region.wanted o' (yielded ops a.tmps) = true then Oper.wp P o' a w K' Q else K' (a.put o'.dst undef) w) : wpAnyB P md ops Q S B (fuel + 1) listed a w := by
  refine ⟨fun h0 => (by rw [hr] at h0; cases h0), fun j hj => ?_⟩
  rw [hr] at hj
  rcases List.mem_cons.1 hj with rfl | hj
  · exact wpOp_step ho fun K' hK => h K' fun a w hS hW => hK a w ⟨hS, hW hS⟩
  · have := List.mem_singleton.1 hj
    subst this
    exact wpOp_step ho' fun K' hK => h' K' fun a w hS hW => hK a w ⟨hS, hW hS⟩
theorem wpAnyB_done {listed : Array Bool} {a : Act} {w : World} (hr : Region.ready md ops listed = []) (h : Q .normal a w) : ∀ fuel, wpAnyB P md ops Q S B fuel listed a w
  | 0 => ⟨hr, h⟩
  | _ + 1 => ⟨fun _ => h, by rw [hr]; simp⟩
theorem wp_region_B (B : List Nat) {id : Nat} {a : Act} {w : World} (hm : P.follows .mixedOrders = true) (hS : S w.drew)
    (h : S w.drew → wpAnyB P .any ops Q S B ops.size (Array.replicate ops.size false) a w.drew) : (Code.region id ops true).wp P Q a w :=
  wp_region_any hm (wpAny_of_B _ _ _ _ (h hS))
end
end Go.Proofs.YtjkkbkdpoebfaaaGreat
