import Derived.Test.YtfbfgljkiikabaaGreatV42
import Derived.Test.YtfbfgljkiikabaaGreatV49
import Derived.Test.YtfbfgljkiikabaaGreatV50
import Derived.Test.YtfbfgljkiikabaaGreatV51
namespace Go.Proofs.YtfbfgljkiikabaaGreat
open Go.RowKit Go.Deep

/-! both sides say the same -/
theorem zB_eq (n : Nat) : zB n = decide (n = 0) := by
  unfold zB
  rw [Bool.eq_iff_iff]
  simp
theorem pos_not (n : Nat) : decide (0 < n) = !decide (n = 0) := by
  rw [Bool.eq_iff_iff]; simp; omega
theorem pos_two (a b : Nat) : decide (0 < a + b) = !(decide (a = 0) && decide (b = 0)) := by
  rw [Bool.eq_iff_iff]; simp only [decide_eq_true_eq, Bool.not_eq_true', Bool.and_eq_false_iff, decide_eq_false_iff_not]; omega
theorem sum_three (a b c : Nat) : decide (a + b + c = 0) = (decide (a = 0) && (decide (b = 0) && decide (c = 0))) := by
  rw [Bool.eq_iff_iff]; simp only [decide_eq_true_eq, Bool.and_eq_true]; omega
theorem still_sum (a b : Nat) (d : Int) (h : 0 ≤ d) : (((a + b : Nat) : Int) + d == 0) = (decide (a = 0) && (decide (b = 0) && d == 0)) := by
  rw [Bool.eq_iff_iff]; simp only [beq_iff_eq, decide_eq_true_eq, Bool.and_eq_true]; omega
theorem valid_same (U : Rr) : validR U = validI U := by
  cases h6 : inB 0 1000000 U.hd with
  | false =>
    unfold validR validI restB
    rw [h6]
    simp
  | true =>
    have hd0 : 0 ≤ U.hd := by unfold inB at h6; simp at h6; omega
    unfold validR validI restB leadB soundB leadS tryS quietS stillB quietB
    rw [still_sum _ _ _ hd0, pos_not, pos_two, sum_three]
    simp only [zB_eq]
    generalize inB 1 5 U.of = b1
    generalize inB 1 U.of U.nu = b2
    generalize diskB U.sf = b3
    generalize diskB U.dk = b4
    generalize decide (U.he.length ≤ 400) = b5
    generalize (List.range U.he.length).all (heldB U) = b6
    generalize wishB U.wi = b7
    rw [h6]
    generalize numsB U.of U.ye = b8
    generalize slotsB U.be = b9
    generalize acksB U.of U.ac = b10
    generalize inB 1 U.dk.pr U.ba = b11
    generalize decide (U.ac.length = 0) = b12
    generalize decide (U.ye.length = 0) = b13
    generalize decide (U.be.length = 0) = b14
    generalize decide (U.he.length = 0) = b15
    generalize decide (U.wi.length = 0) = b16
    generalize (U.ba == 0) = b17
    generalize (U.hd == 0) = b18
    generalize U.up = b19
    generalize U.ld = b20
    generalize U.ty = b21
    cases b1 <;> (try rfl)
    cases b2 <;> (try rfl)
    cases b3 <;> (try rfl)
    cases b4 <;> (try rfl)
    cases b5 <;> (try rfl)
    cases b7 <;> (try (cases b6 <;> rfl))
    cases b6 <;> (try rfl)
    cases b8 <;> (try rfl)
    cases b9 <;> (try rfl)
    cases b10 <;> (try rfl)
    cases b20 <;> cases b21 <;> cases b19 <;> cases b11 <;> cases b12 <;> cases b13 <;> cases b14 <;> (try rfl) <;> cases b17 <;> (try rfl) <;> cases b15 <;> (try rfl) <;> cases b16 <;> (try rfl) <;> cases b18 <;> rfl
theorem implValidR_any (lo : Nat) (cs : List Value) (U : Rr) (w : World) (h : RrC lo w cs U) :
    Calls Tryz.prog 41 #[.agg cs.toArray] w fun e w' => e = .returned (.bool (validR U)) ∧ Below w.heap.size w w' := by
  rw [valid_same]
  cases ha : (ahead9 U).all id with
  | false => exact validNo_any lo cs U w h ha
  | true =>
    unfold ahead9 at ha
    simp only [List.all_cons, List.all_nil, Bool.and_true, id, Bool.and_eq_true] at ha
    obtain ⟨⟨h1, h1'⟩, h2, h3, ⟨h4, h4'⟩, h5, h6, h7, h8, h9⟩ := ha
    have e1 : (inB 1 5 U.of && inB 1 U.of U.nu) = true := by rw [h1, h1']; rfl
    have e4 : (decide (U.he.length ≤ 400) && (List.range U.he.length).all (heldB U)) = true := by rw [h4, h4']; rfl
    cases ql : U.ld with
    | true => exact valid_lead lo cs U w h e1 h2 h3 e4 h5 h6 h7 h8 h9 ql
    | false =>
      cases qt : U.ty with
      | true => exact valid_try lo cs U w h e1 h2 h3 e4 h5 h6 h7 h8 h9 ql qt
      | false => exact valid_quiet lo cs U w h e1 h2 h3 e4 h5 h6 h7 h8 h9 ql qt
end Go.Proofs.YtfbfgljkiikabaaGreat
namespace Go.Proofs.YtfbfgljkiikabaaGreat
open Go.RowKit Go.Deep

theorem nw_own (n of : Int) (up : Bool) (lo hi : Nat) (h : lo ≤ hi) (w : World) : RrOwn lo hi w (nwL n of up) (nwU n of up) :=
  ⟨none, 0, none, 0, none, 0, none, 0, none, 0, none, 0, none, 0, fun _ => (lo, lo), rfl, ⟨fun _ _ => ⟨Nat.le_refl _, h⟩, fun _ _ _ _ _ => Or.inl (Nat.le_refl _), Or.inl ⟨none, 0, rfl, rfl⟩, Or.inl ⟨none, 0, rfl, rfl⟩, Or.inl ⟨none, 0, rfl, rfl⟩, Or.inl ⟨none, 0, rfl, rfl⟩, Or.inl ⟨none, 0, rfl, rfl⟩, Or.inl ⟨none, 0, rfl, rfl⟩, Or.inl ⟨none, 0, rfl, rfl⟩⟩⟩
theorem RrOwn.wide {lo hi lo' hi' : Nat} {w : World} {cs : List Value} {U : Rr} (h : RrOwn lo hi w cs U) (h1 : lo' ≤ lo) (h2 : hi ≤ hi') : RrOwn lo' hi' w cs U := by
  obtain ⟨a0, k0, a1, k1, a2, k2, a3, k3, a4, k4, a5, k5, a6, k6, c, e, h⟩ := h
  exact ⟨a0, k0, a1, k1, a2, k2, a3, k3, a4, k4, a5, k5, a6, k6, c, e, ⟨fun i hi => ⟨Nat.le_trans h1 (h.seg i hi).1, Nat.le_trans (h.seg i hi).2 h2⟩, h.ap, h.o0, h.o1, h.o2, h.o3, h.o4, h.o5, h.o6⟩⟩
theorem valid_bal {U : Rr} (h : validR U = true) : ∀ i (hi : i < U.dk.sl.length), (i : Int) < U.dk.kn → 0 < U.dk.sl[i].ba := by
  intro i hi hk
  unfold validR at h
  simp only [Bool.and_eq_true] at h
  have h2 := h.2.2.2.1
  unfold diskB at h2
  simp only [Bool.and_eq_true] at h2
  have h3 := range_is hi h2.2.2.2
  rw [dokB_at hi] at h3
  have h4 := h2.2.1
  unfold slotsB at h4
  simp only [Bool.and_eq_true] at h4
  have h5 := List.all_eq_true.1 h4.2 _ (List.getElem_mem hi)
  unfold slotB at h5
  rw [inB_eq] at h5
  simp only [Bool.and_eq_true, decide_eq_true_eq] at h5
  simp only [decide_eq_true hk, Bool.true_and, Bool.not_eq_true', Bool.or_eq_false_iff] at h3
  have h6 : ¬ U.dk.sl[i].ba = 0 := by simpa using h3.2
  omega
theorem valid_wi {U : Rr} (h : validR U = true) : U.wi.length ≤ 20 := by
  unfold validR at h
  simp only [Bool.and_eq_true] at h
  have h2 := h.2.2.2.2.2.1
  unfold wishB at h2
  simp only [Bool.and_eq_true, decide_eq_true_eq] at h2
  have := h2.1
  omega
theorem has_tx {L : List Rs} {tx : ByteArray} (h : ∀ x ∈ L, 0 < x.ba) : hasSl L tx = txSl L tx := by
  unfold hasSl txSl
  induction L with
  | nil => rfl
  | cons x r ih =>
    simp only [List.any_cons]
    rw [ih (fun y hy => h y (List.mem_cons_of_mem _ hy)), decide_eq_true (h x (List.mem_cons_self ..)), Bool.true_and]
theorem wish_same {U : Rr} (h : validR U = true) (tx : ByteArray) : wishU U tx = wishI U tx := by
  have hk := valid_kn h
  have e : hasSl (U.dk.sl.take U.dk.kn.toNat) tx = txSl (U.dk.sl.take U.dk.kn.toNat) tx := has_tx fun x hx => by
    obtain ⟨i, hi, rfl⟩ := List.mem_iff_getElem.1 hx
    rw [List.length_take] at hi
    rw [List.getElem_take]
    exact valid_bal h i (by omega) (by omega)
  have e2 : wishOkB U tx = wishBI U tx := by
    unfold wishOkB wishBI
    rw [e, inB_eq]
    have e3 : (!decide ((tx.size : Int) < 1)) = decide (1 ≤ (tx.size : Int)) := by rw [← decide_not]; exact decide_eq_decide.2 (by omega)
    have e4 : (!decide (160 < (tx.size : Int))) = decide ((tx.size : Int) ≤ 160) := by rw [← decide_not]; exact decide_eq_decide.2 (by omega)
    have e5 : (!decide (20 ≤ (U.wi.length : Int))) = decide ((U.wi.length : Int) < 20) := by rw [← decide_not]; exact decide_eq_decide.2 (by omega)
    rw [e3, e4, e5]
    cases decide (1 ≤ (tx.size : Int)) <;> cases decide ((tx.size : Int) ≤ 160) <;> cases decide ((U.wi.length : Int) < 20) <;> cases txSl (U.dk.sl.take U.dk.kn.toNat) tx <;> cases (U.wi.any fun s => s.toList == tx.toList) <;> rfl
  unfold wishU wishI
  rw [e2]
theorem wish_z {U : Rr} (h : RrZ U) {tx : ByteArray} (ht : tx.size ≤ maxLen) : RrZ (wishI U tx) := by
  unfold wishI
  split
  · refine ⟨h.z0, h.z1, h.z2, fun i hi => ?_, h.z5⟩
    simp only [List.getElem_append]
    split
    · exact h.z3 i (by assumption)
    · simpa using ht
  · exact h
set_option maxRecDepth 20000 in
set_option maxHeartbeats 4000000 in
theorem workOf_any (γ : Nat) (w : World) :
    Calls Tryz.prog 61 #[.pointer (some ⟨γ, 0, none⟩)] w fun e w' => e = .returned (.agg #[.pointer (some ⟨γ, 0, none⟩), .func (.func 110) #[] #[.pointer (some ⟨w.heap.size, 0, none⟩)]]) ∧ Below w.heap.size w w' ∧ Box w' w.heap.size #[.pointer (some ⟨γ, 0, none⟩)] := by
  obtain ⟨fs, hfs⟩ : ∃ fs : Array Value, fs = #[.pointer (some ⟨γ, 0, none⟩), .func (.func 110) #[] #[.pointer (some ⟨w.heap.size, 0, none⟩)]] := ⟨_, rfl⟩
  obtain ⟨W0, hW0⟩ : ∃ W0, W0 = (w.alloc (.cells #[.pointer (some ⟨γ, 0, none⟩)] 76)).alloc (.cells #[.pointer none, .nilFunc] 87) := ⟨_, rfl⟩
  have BX : Hid (Box W0 w.heap.size #[.pointer (some ⟨γ, 0, none⟩)]) := by unfold Hid; rw [hW0]; exact (Box.new w _ _ _ rfl).on (one_al _ _)
  have RB : Hid (Box W0 (w.heap.size + 1) #[.pointer none, .nilFunc]) := by unfold Hid; rw [hW0]; exact Box.new _ _ _ _ (by simp)
  have HB : Hid (Below w.heap.size w W0) := by unfold Hid; rw [hW0]; exact bt (one_al _ _) (one_al _ _)
  have HTH : Hid (World.there ((w.alloc (.cells #[.pointer (some ⟨γ, 0, none⟩)] 76)).alloc (.cells #[.pointer none, .nilFunc] 87)) (w.heap.size + 1) 0 fs.size) := by unfold Hid; rw [← hW0, hfs]; exact RB.out.there rfl
  have HON : Hid (fs.all (·.oneCell') = true) := by unfold Hid; rw [hfs]; simp [Value.oneCell']
  have HSA : Hid ((Tryz.prog.info? 87).map (·.size) = some fs.size) := by unfold Hid; rw [hfs]; kernel_rfl
  have HFS := hide hfs
  go_enter Tryz.func61, Tryz.ntmps61
  go_wp2_with (with_reducible refine wpList_store_mid (by with_reducible rfl) 87 (.tmp 2) (.tmp 5) (by with_reducible rfl) (w.heap.size + 1) 0 fs (by with_unfolding_all rfl) (by rw [hfs]; with_unfolding_all rfl) HTH.out HSA.out HON.out ?_; refine Hid.out ?_)
  rw [← hW0]
  generalize hW : World.setCells _ _ _ _ = W9
  have FR9 : Hid (Box W9 (w.heap.size + 1) fs) := by unfold Hid; rw [← hW, hfs]; exact RB.out.full rfl
  have TT : Hid (Touch (w.heap.size + 1) (w.heap.size + 2) W0 W9) := by unfold Hid; rw [← hW]; exact Touch.sets ⟨by omega, by omega⟩ _ _ _
  have BX9 := hide (BX.out.tch2 TT.out (Or.inl (by omega)))
  have HB9 : Hid (Below w.heap.size w W9) := HB.out.trans ((TT.out.under (by have := RB.out.lt; omega)).mono (by omega))
  clear hW hW0
  refine hide ?_
  go_wp2
  refine bodyPost_ret (v := .agg fs) ?_ rfl ⟨by rw [HFS.out], HB9.out, BX9.out⟩
  have g := FR9.out.cell
  rw [HFS.out] at g ⊢
  simp [results, Tryz.results61, go_sem, g]
end Go.Proofs.YtfbfgljkiikabaaGreat
namespace Go.Proofs.YtfbfgljkiikabaaGreat
open Go.RowKit Go.Deep

def z18R : List Value := [.int .i64 0, .int .i64 0, .bool false, .int .i64 0, .int .i64 0, .slice none 0 0, .int .i64 0, .int .i64 0, .slice none 0 0, .slice none 0 0, .slice none 0 0, .bool false, .bool false, .int .i64 0, .slice none 0 0, .slice none 0 0, .slice none 0 0, .int .i64 0]
theorem rrF_len (U : Rr) (b : Nat → Option Addr) (m : Nat → Nat) : (rrF U b m).length = 18 := rfl
theorem rrF_one (U : Rr) (b : Nat → Option Addr) (m : Nat → Nat) : (rrF U b m).toArray.all (·.oneCell') = true := rrL_one ..
/-- the parts of seven letters as functions -/
def f7 {X : Type} (a0 a1 a2 a3 a4 a5 a6 : X) : Nat → X
  | 0 => a0
  | 1 => a1
  | 2 => a2
  | 3 => a3
  | 4 => a4
  | 5 => a5
  | _ => a6
theorem Cpn.rw {K : Nat → Prop} {w : World} {lo : Nat} {c : Nat → Nat × Nat} {U : Rr} {b0 b1 b2 b3 b4 b5 b6 : Option Addr} {m0 m1 m2 m3 m4 m5 m6 : Nat} (h : Cpn w lo c (.slice b0 U.sf.sl.length m0) (.slice b1 U.dk.sl.length m1) (.slice b2 U.he.length m2) (.slice b3 U.wi.length m3) (.slice b4 U.ye.length m4) (.slice b5 U.be.length m5) (.slice b6 U.ac.length m6) U)
    {w' : World} {γ : Nat} (hb : Below w.heap.size w w') (hx : Box w' γ (rrL U b0 m0 b1 m1 b2 m2 b3 m3 b4 m4 b5 m5 b6 m6).toArray) (hγ : γ = w.heap.size) (hl : lo ≤ w.heap.size) (hk : ∀ k, K k → k < lo) : Rw K lo w' γ (f7 b0 b1 b2 b3 b4 b5 b6) (f7 m0 m1 m2 m3 m4 m5 m6) c U := by
  have hs := hb.size
  refine ⟨hx, h.below hb, by omega, fun i hi => Or.inr (by have := (h.seg i hi).2; omega), fun k hk' => ?_⟩
  have h1 := hk k hk'
  exact ⟨by omega, by omega, fun i hi => Or.inl (by have := (h.seg i hi).1; omega)⟩

set_option maxRecDepth 20000 in
set_option maxHeartbeats 16000000 in
theorem implWish_any (cs : List Value) (U : Rr) (tx : ByteArray) (w : World) (h : RrC 0 w cs U) (hn : RrSmall U) (htx : tx.size ≤ 1048576) :
    Calls Tryz.prog 18 #[.agg cs.toArray, .string tx] w fun e w' => ∃ cs', e = .returned (.agg cs'.toArray) ∧ Below w.heap.size w w' ∧ RrOwn w.heap.size w'.heap.size w' cs' (specW U tx) := by
  have HC := hide h
  have HN := hide hn
  have HZ := hide h.sizes
  have HTX : Hid (tx.size ≤ maxLen) := by unfold Hid maxLen; omega
  have HS : Hid ((Tryz.prog.info? 41).map (·.size) = some cs.length) := by unfold Hid; rw [h.len]; exact sizeRr
  have HUP := hide (rr_at h).2.2.1
  have HE : Hid (specW U tx = if validR U then (if U.up then wishU U tx else U) else nwU 0 0 false) := rfl
  have HTN : Hid (∀ (X : World) (l : List Value), l.length = 18 → (X.alloc (.cells z18R.toArray 41)).there X.heap.size 0 l.toArray.size) := fun X l h => by rw [show l.toArray.size = 18 from h]; exact there_made _ _ _ _ rfl
  have HBX : Hid (∀ (X : World) (l : List Value), l.length = 18 → Box ((X.alloc (.cells z18R.toArray 41)).setCells X.heap.size 0 l.toArray.toList) X.heap.size l.toArray) := fun X l h => (Box.new _ _ _ _ rfl).full (by rw [show l.toArray.size = 18 from h]; rfl)
  clear h hn
  have HR0 : Hid (World.rangeAt ((w.alloc (.cells cs.toArray 41)).alloc (.cells #[.int .i64 0, .int .i64 0, .bool false, .int .i64 0, .int .i64 0, .slice none 0 0, .int .i64 0, .int .i64 0, .slice none 0 0, .slice none 0 0, .slice none 0 0, .bool false, .bool false, .int .i64 0, .slice none 0 0, .slice none 0 0, .slice none 0 0, .int .i64 0] 41)) w.heap.size 0 cs) := ((Box.new w _ _ _ rfl).on (one_al _ _)).range rfl
  go_enter Tryz.func18, Tryz.ntmps18
  go_wp2_with (with_reducible refine wpList_load_mid (by with_reducible rfl) 41 (.tmp 2) (by with_reducible rfl) w.heap.size 0 (by with_unfolding_all rfl) cs _ HR0.out Tryz.underlying41 (by with_unfolding_all rfl) HS.out ?_)
  obtain ⟨wz, hwz, FB, RB, HB⟩ : ∃ wz, wz = (w.alloc (.cells cs.toArray 41)).alloc (.cells #[.int .i64 0, .int .i64 0, .bool false, .int .i64 0, .int .i64 0, .slice none 0 0, .int .i64 0, .int .i64 0, .slice none 0 0, .slice none 0 0, .slice none 0 0, .bool false, .bool false, .int .i64 0, .slice none 0 0, .slice none 0 0, .slice none 0 0, .int .i64 0] 41) ∧ Hid (Box wz w.heap.size cs.toArray) ∧ Hid (Box wz (w.heap.size + 1) #[.int .i64 0, .int .i64 0, .bool false, .int .i64 0, .int .i64 0, .slice none 0 0, .int .i64 0, .int .i64 0, .slice none 0 0, .slice none 0 0, .slice none 0 0, .bool false, .bool false, .int .i64 0, .slice none 0 0, .slice none 0 0, .slice none 0 0, .int .i64 0]) ∧ Hid (Below w.heap.size w wz) :=
    ⟨_, rfl, (Box.new w _ _ _ rfl).on (one_al _ _), Box.new _ _ _ _ (by simp), (one_al _ _).trans ((one_al _ _).mono (by simp))⟩
  rw [← hwz]
  clear hwz HR0
  refine (implValidR_any 0 cs U _ (HC.out.below HB.out)).mono ?_
  rintro e w1 ⟨rfl, hb⟩
  replace HB : Hid (Below w.heap.size w w1) := bt HB.out hb
  replace FB := hide (FB.out.on hb)
  replace RB := hide (RB.out.on hb)
  clear hb
  cases qv : validR U with
  | false =>
    have HV : Hid (specW U tx = nwU 0 0 false) := by unfold Hid; rw [HE.out, qv]; rfl
    obtain ⟨zl, hzl⟩ : ∃ zl, zl = nwL 0 0 false := ⟨_, rfl⟩
    have hz18 : zl.length = 18 := by rw [hzl]; rfl
    have HON : Hid (zl.toArray.all (·.oneCell') = true) := by unfold Hid; rw [hzl]; exact nwL_one _ _ _
    have HZL := hide hzl
    have hzb : ∀ u, Sem.run Tryz.prog (zeroValue 41) u = .ok (.agg zl.toArray) u := by rw [hzl]; intro u; kernel_rfl
    clear hzl
    have HTH : Hid (World.there w1 (w.heap.size + 1) 0 zl.toArray.size) := by unfold Hid; rw [show zl.toArray.size = 18 from hz18]; exact RB.out.there rfl
    go_wp2_with (with_reducible refine wpList_store_mid (by with_reducible rfl) 41 (.tmp 4) (.tmp 9) (by with_reducible rfl) (w.heap.size + 1) 0 zl.toArray (by with_unfolding_all rfl) (by with_unfolding_all rfl) HTH.out (szN hz18) HON.out ?_; refine Hid.out ?_)
    generalize hW : World.setCells _ _ _ _ = W9
    have FR9 : Hid (Box W9 (w.heap.size + 1) zl.toArray) := by unfold Hid; rw [← hW]; exact RB.out.full (by rw [show zl.toArray.size = 18 from hz18]; rfl)
    have TT : Hid (Touch (w.heap.size + 1) (w.heap.size + 2) w1 W9) := by unfold Hid; rw [← hW]; exact Touch.sets ⟨by omega, by omega⟩ _ _ _
    have HB9 : Hid (Below w.heap.size w W9) := HB.out.trans ((TT.out.under (by have := RB.out.lt; omega)).mono (by omega))
    clear hW
    refine hide ?_
    go_wp2
    exact bodyPost_ret (v := .agg zl.toArray) (res_rr (p := 4) (ty := 41) Tryz.results18 _ _ (w.heap.size + 1) 0 zl _ rfl (FR9.out.range rfl) Tryz.underlying41 rfl (by rw [hz18]; exact sizeRr)) rfl ⟨zl, rfl, HB9.out, by rw [HV.out, HZL.out]; exact nw_own _ _ _ _ _ HB9.out.size _⟩
  | true =>
  have HKN := hide (valid_kn qv)
  have HWS := hide (wish_same qv tx)
  have HWI := hide (valid_wi qv)
  have HRA := hide (FB.out.range (l := cs) rfl)
  go_wp2_with (with_reducible refine wpList_load_mid (by with_reducible rfl) 41 (.tmp 2) (by with_reducible rfl) w.heap.size 0 (by with_unfolding_all rfl) cs _ HRA.out Tryz.underlying41 (by with_unfolding_all rfl) HS.out ?_)
  clear HRA
  have hsz : w.heap.size + 2 ≤ w1.heap.size := by have := RB.out.lt; omega
  refine (copyI_any 0 cs U _ (HC.out.below HB.out) HN.out).mono ?_
  rintro e w2 ⟨b0, m0, b1, m1, b2, m2, b3, m3, b4, m4, b5, m5, b6, m6, c, rfl, hb, hcp⟩
  have hs2 : w1.heap.size ≤ w2.heap.size := hb.size
  replace HB : Hid (Below w.heap.size w w2) := bt HB.out hb
  replace FB := hide (FB.out.on hb)
  replace RB := hide (RB.out.on hb)
  have HCP := hide hcp
  clear hb hcp
  obtain ⟨yl, hyl⟩ : ∃ yl, yl = rrL U b0 m0 b1 m1 b2 m2 b3 m3 b4 m4 b5 m5 b6 m6 := ⟨_, rfl⟩
  rw [← hyl]
  have hy18 : yl.length = 18 := by rw [hyl]; rfl
  have HON : Hid (yl.toArray.all (·.oneCell') = true) := by unfold Hid; rw [hyl]; exact rrL_one _ _ _ _ _ _ _ _ _ _ _ _ _ _ _
  have HYL := hide hyl
  clear hyl
  go_wp2_with (with_reducible refine wpList_store_mid (by with_reducible rfl) 41 (.tmp 5) (.tmp 11) (by with_reducible rfl) w2.heap.size 0 yl.toArray (by with_unfolding_all rfl) (by with_unfolding_all rfl) (HTN.out _ _ hy18) (szN hy18) HON.out ?_; refine Hid.out ?_)
  generalize hW : World.setCells _ _ _ _ = w3
  have NB : Hid (Box w3 w2.heap.size yl.toArray) := by unfold Hid; rw [← hW]; exact HBX.out _ _ hy18
  have hb : Below w2.heap.size w2 w3 := by rw [← hW]; exact Below.sets (Nat.le_refl _) _ _ (one_al _ _)
  clear hW
  have hs3 : w2.heap.size < w3.heap.size := NB.out.lt
  replace HB : Hid (Below w.heap.size w w3) := bt HB.out hb
  replace FB := hide (FB.out.on hb)
  replace RB := hide (RB.out.on hb)
  have HRW : Hid (Rw (fun k => k < w.heap.size + 2) w1.heap.size w3 w2.heap.size (f7 b0 b1 b2 b3 b4 b5 b6) (f7 m0 m1 m2 m3 m4 m5 m6) c U) := HCP.out.rw hb (by rw [← HYL.out]; exact NB.out) rfl hs2 (fun k hk => by omega)
  clear hb HCP
  have g2 : w3.cell? ⟨w.heap.size, 2, none⟩ = some (.bool U.up) := by rw [FB.out.cell 2, List.getElem?_toArray, HUP.out]
  refine hide ?_
  cases qu : U.up with
  | false =>
    rw [qu] at g2
    have HV : Hid (specW U tx = U) := by unfold Hid; rw [HE.out, qv, qu]; rfl
    have HOW : Hid (RrOwn w1.heap.size w3.heap.size w3 yl U) := by unfold Hid; rw [HYL.out]; exact HRW.out.own HZ.out
    have HTH : Hid (World.there w3 (w.heap.size + 1) 0 yl.toArray.size) := by unfold Hid; rw [show yl.toArray.size = 18 from hy18]; exact RB.out.there rfl
    have HRA := hide (NB.out.range (l := yl) rfl)
    have HSy : Hid ((Tryz.prog.info? 41).map (·.size) = some yl.length) := by unfold Hid; rw [hy18]; exact sizeRr
    go_wp2_with (first
      | (with_reducible refine wpList_load_mid (by with_reducible rfl) 41 (.tmp 5) (by with_reducible rfl) w2.heap.size 0 (by with_unfolding_all rfl) yl _ HRA.out Tryz.underlying41 (by with_unfolding_all rfl) HSy.out ?_)
      | (with_reducible refine wpList_store_mid (by with_reducible rfl) 41 (.tmp 4) (.tmp 17) (by with_reducible rfl) (w.heap.size + 1) 0 yl.toArray (by with_unfolding_all rfl) (by with_unfolding_all rfl) HTH.out (szN hy18) HON.out ?_; refine Hid.out ?_))
    generalize hW : World.setCells _ _ _ _ = W9
    have FR9 : Hid (Box W9 (w.heap.size + 1) yl.toArray) := by unfold Hid; rw [← hW]; exact RB.out.full (by rw [show yl.toArray.size = 18 from hy18]; rfl)
    have TT : Hid (Touch (w.heap.size + 1) (w.heap.size + 2) w3 W9) := by unfold Hid; rw [← hW]; exact Touch.sets ⟨by omega, by omega⟩ _ _ _
    have HB9 : Hid (Below w.heap.size w W9) := HB.out.trans ((TT.out.under (by have := RB.out.lt; omega)).mono (by omega))
    clear hW
    refine hide ?_
    go_wp2
    exact bodyPost_ret (v := .agg yl.toArray) (res_rr (p := 4) (ty := 41) Tryz.results18 _ _ (w.heap.size + 1) 0 yl _ rfl (FR9.out.range rfl) Tryz.underlying41 rfl HSy.out) rfl ⟨yl, rfl, HB9.out, by
      rw [HV.out]
      exact (HOW.out.touch TT.out (Or.inr (by omega))).wide (by omega) TT.out.size⟩
  | true =>
    rw [qu] at g2
    have HV : Hid (specW U tx = wishI U tx) := by unfold Hid; rw [HE.out, qv, qu, ← HWS.out]; rfl
    go_wp2_with fail
    refine (workOf_any w2.heap.size _).mono ?_
    rintro e w4 ⟨rfl, hb, -⟩
    have hs4 : w3.heap.size ≤ w4.heap.size := hb.size
    replace HB : Hid (Below w.heap.size w w4) := bt HB.out hb
    replace RB := hide (RB.out.on hb)
    have HWR : Hid (Wr (fun k => k < w.heap.size + 2) w1.heap.size w4 w2.heap.size U) := ⟨_, _, _, HRW.out.on hb⟩
    clear hb
    go_wp2_with fail
    refine (wishW_any (fun k => k < w.heap.size + 2) w1.heap.size _ w2.heap.size U _ tx HWR.out HZ.out HKN.out HTX.out (by have := HWI.out; omega) rfl).mono ?_
    rintro e w5 ⟨rfl, hk, hwr⟩
    replace HB : Hid (Below w.heap.size w w5) := HB.out.trans ((hk.under (n := w.heap.size + 2) (fun k h => h)).mono (by omega))
    replace RB := hide (RB.out.kept hk (by omega))
    obtain ⟨b, m, c', hR⟩ := hwr
    have NB5 : Hid (Box w5 w2.heap.size (rrF (wishI U tx) b m).toArray) := hR.box
    have HOW : Hid (RrOwn w1.heap.size w5.heap.size w5 (rrF (wishI U tx) b m) (wishI U tx)) := hR.own (wish_z HZ.out HTX.out)
    clear hk hR NB HRW
    obtain ⟨yl, hyl⟩ : ∃ yl, yl = rrF (wishI U tx) b m := ⟨_, rfl⟩
    rw [← hyl] at NB5 HOW
    have hy18 : yl.length = 18 := by rw [hyl]; rfl
    have HON : Hid (yl.toArray.all (·.oneCell') = true) := by unfold Hid; rw [hyl]; exact rrF_one _ _ _
    clear hyl
    have HTH : Hid (World.there w5 (w.heap.size + 1) 0 yl.toArray.size) := by unfold Hid; rw [show yl.toArray.size = 18 from hy18]; exact RB.out.there rfl
    have HRA := hide (NB5.out.range (l := yl) rfl)
    have HSy : Hid ((Tryz.prog.info? 41).map (·.size) = some yl.length) := by unfold Hid; rw [hy18]; exact sizeRr
    go_wp2_with (first
      | (with_reducible refine wpList_load_mid (by with_reducible rfl) 41 (.tmp 5) (by with_reducible rfl) w2.heap.size 0 (by with_unfolding_all rfl) yl _ HRA.out Tryz.underlying41 (by with_unfolding_all rfl) HSy.out ?_)
      | (with_reducible refine wpList_store_mid (by with_reducible rfl) 41 (.tmp 4) (.tmp 17) (by with_reducible rfl) (w.heap.size + 1) 0 yl.toArray (by with_unfolding_all rfl) (by with_unfolding_all rfl) HTH.out (szN hy18) HON.out ?_; refine Hid.out ?_))
    generalize hW : World.setCells _ _ _ _ = W9
    have FR9 : Hid (Box W9 (w.heap.size + 1) yl.toArray) := by unfold Hid; rw [← hW]; exact RB.out.full (by rw [show yl.toArray.size = 18 from hy18]; rfl)
    have TT : Hid (Touch (w.heap.size + 1) (w.heap.size + 2) w5 W9) := by unfold Hid; rw [← hW]; exact Touch.sets ⟨by omega, by omega⟩ _ _ _
    have HB9 : Hid (Below w.heap.size w W9) := HB.out.trans ((TT.out.under (by have := RB.out.lt; omega)).mono (by omega))
    clear hW
    refine hide ?_
    go_wp2
    exact bodyPost_ret (v := .agg yl.toArray) (res_rr (p := 4) (ty := 41) Tryz.results18 _ _ (w.heap.size + 1) 0 yl _ rfl (FR9.out.range rfl) Tryz.underlying41 rfl HSy.out) rfl ⟨yl, rfl, HB9.out, by
      rw [HV.out]
      exact (HOW.out.touch TT.out (Or.inr (by omega))).wide (by omega) TT.out.size⟩
end Go.Proofs.YtfbfgljkiikabaaGreat
