import Derived.Test.YtpdlcccnlciecaaGreatV24
import Derived.Test.YtpdlcccnlciecaaGreatV34
import Derived.Test.YtpdlcccnlciecaaGreatV35
import Derived.Test.YtpdlcccnlciecaaGreatV36
namespace Go.Proofs.YtpdlcccnlciecaaGreat
open Go.RowKit Go.Deep Go.Shelf

attribute [local go_sem] Oper.semAt_some

theorem yield_any {m : Nat} (m' : Nat) {P : Program} {l : Nat} {args : Array Value} {W : World} {R : Ending → World → Prop} (h : YieldAt Fence.wide m P l args W R) : YieldAt Fence.wide m' P l args W R := by
  obtain ⟨fn, tmps, assign, body, hy, hR⟩ := h
  exact ⟨fn, tmps, assign, body, hy, hR.1, fun c cs _ => hR.2 c cs (fun d hd => by cases hd)⟩

theorem Box.keepB {W W' : World} {β B : Nat} {cs : Array Value} {v : Value} {S : Nat → Prop} (h : Box W β cs) (hk : KeepsBut S B W W') (hS : ¬ S β) (h0 : cs[0]? = some v) : Box W' β cs := by
  obtain ⟨o, ho, hc⟩ := cells_of_cell ((h.cell 0).trans h0)
  exact h.ofBlk ((hk.same _ o ho hS (Or.inl hc)).trans ho.symm)
theorem KeepsFrom.up {B B' : Nat} {W W' : World} (h : KeepsFrom B W W') (hB : B ≤ B') : KeepsFrom B' W W' := ⟨h.size, fun k o hk => h.same k o (Nat.le_trans hB hk)⟩
theorem KeepsFrom.ofBelow {B : Nat} {W W' : World} (h : Below W.heap.size W W') : KeepsFrom B W W' := KeepsFrom.of_grownBy (grown_of_below h) (fun j e => by cases e)
/-- the world while an iterator over copies goes on -/
structure LvW (w0 : World) (B2 By l pf : Nat) (b0 : Value) (P : World → Prop) (W : World) : Prop where
  j : P W
  so : Box W B2 #[.func (.func pf) #[b0] #[]]
  yi : Box W By #[.func (.yield l) #[] #[]]
  below : Below w0.heap.size w0 W

section
variable (lo m : Nat) (sv cv bv : Value) (B : Sb) (x : Sv) (nn : Ct) (d : Int) (lk : List Value) (w : World)

set_option maxHeartbeats 1000000 in
theorem live_in (n : Nat) (pf : Nat) (b0 : Value) :
    CallsIn Fence.wide n Tryz.prog 73 #[.agg lk.toArray, .func (.func pf) #[b0] #[]] w
      fun e w' => e = .returned (.func (.func 97) #[] #[.pointer (some ⟨w.heap.size, 0, none⟩), .pointer (some ⟨w.heap.size + 1, 0, none⟩)]) ∧
        Below w.heap.size w w' ∧ Box w' w.heap.size lk.toArray ∧ Box w' (w.heap.size + 1) #[.func (.func pf) #[b0] #[]] ∧ w'.heap.size = w.heap.size + 2 := by
  refine callsIn_of_wp Tryz.func73 rfl trivial ?_ rfl
  simp only [Tryz.ntmps73, List.size_toArray, List.length_cons, List.length_nil, Nat.reduceAdd, Nat.reduceSub, Array.replicate_succ, Array.replicate_zero, List.push_toArray, List.append_toArray, List.nil_append, List.cons_append]
  gi_wp2
  go_ret
  exact ⟨rfl, (one_al _ _).alloc (by simp) _, (Box.new _ _ _ _ rfl).on (one_al _ _), Box.new _ _ _ _ (by simp), by simp⟩

set_option maxRecDepth 100000 in
set_option maxHeartbeats 8000000 in
theorem live_passes (n : Nat) (hn : 3 ≤ n) (S : Nat → Prop) (w0 : World) (B1 B2 : Nat) (p : Cp → Bool) (pf : Nat) (b0 : Value) (M : List CpL) (hM : B.cs = M.map (·.1))
    (hlk : LkIs lk m sv cv bv B x nn d) (h0 : Below w0.heap.size w0 w) (h : SbAt lo w0 sv cv bv B) (hv : validB B = true)
    (s0 : ∀ k, k < w0.heap.size → ¬ S k) (s1 : ¬ S B1) (s2 : ¬ S B2) (zs : Nat) (s3 : ¬ S zs) (s4 : ¬ S (zs + 1 + 1))
    (hX1 : Box w B1 lk.toArray) (hX2 : Box w B2 #[.func (.func pf) #[b0] #[]])
    (ep : ∀ args W, (callFunc pf args).run Tryz.prog W = .ok (.enter pf args) W)
    (hp : ∀ (W : World) (y : CpL), Below w0.heap.size w0 W → Calls Tryz.prog pf #[b0, .agg #[.string y.1.se, .int .i64 y.1.nu, .int .i64 y.1.ve, .int .i64 y.1.im, .int .i64 y.1.st, .bool y.1.en, .string y.1.be]] W fun e W' => e = .returned (.bool (p y.1)) ∧ Below W.heap.size W W') :
    Passes n Tryz.prog 97 #[.pointer (some ⟨B1, 0, none⟩), .pointer (some ⟨B2, 0, none⟩)] encL (KeepsBut S w.heap.size) (fun xs => xs = (M.filter fun y => mineB x.nm y.1).filter fun y => !y.1.en && p y.1) B.cs.length w zs 3 := by
  intro l J W hW hzs hJ hY hJ0
  have HK := hide h
  have HVC := hide (valid_cps hv)
  have H0 := hide (h0.trans (hW.mono h0.size))
  have hw0 : w0.heap.size ≤ w.heap.size := h0.size
  have hww : w.heap.size ≤ W.heap.size := hW.size
  have F1 := hide (hX1.below hW hX1.lt)
  have F2 := hide (hX2.below hW hX2.lt)
  have hl1 := hX1.lt
  have hl2 := hX2.lt
  have HJ := hide hJ
  have HY := hide hY
  have HJ0 := hide hJ0
  have HP := hide hp
  have HM := hide hM
  have S0 := hide s0
  have S1 := hide s1
  have S2 := hide s2
  subst hzs
  have S3 := hide s3
  have S4 := hide s4
  have g0 : W.cell? ⟨B1, 0, none⟩ = some (.int .i64 B.now) := by rw [F1.out.cell, hlk]; rfl
  have g1 : W.cell? ⟨B1, 1, none⟩ = some sv := by rw [F1.out.cell, hlk]; rfl
  have g2 : W.cell? ⟨B1, 2, none⟩ = some cv := by rw [F1.out.cell, hlk]; rfl
  have g3 : W.cell? ⟨B1, 3, none⟩ = some bv := by rw [F1.out.cell, hlk]; rfl
  have g5 : W.cell? ⟨B1, 5, none⟩ = some (.string x.nm) := by rw [F1.out.cell, hlk]; rfl
  have g0a : ∀ o, (W.alloc o).cell? ⟨B1, 0, none⟩ = some (.int .i64 B.now) := fun o => (cell_alloc_lt _ _ _ _ (by omega)).trans g0
  have g1a : ∀ o, (W.alloc o).cell? ⟨B1, 1, none⟩ = some sv := fun o => (cell_alloc_lt _ _ _ _ (by omega)).trans g1
  have g2a : ∀ o, (W.alloc o).cell? ⟨B1, 2, none⟩ = some cv := fun o => (cell_alloc_lt _ _ _ _ (by omega)).trans g2
  have g3a : ∀ o, (W.alloc o).cell? ⟨B1, 3, none⟩ = some bv := fun o => (cell_alloc_lt _ _ _ _ (by omega)).trans g3
  have g5a : ∀ o, (W.alloc o).cell? ⟨B1, 5, none⟩ = some (.string x.nm) := fun o => (cell_alloc_lt _ _ _ _ (by omega)).trans g5
  obtain ⟨a0, k0, rfl⟩ := h.svs.form
  obtain ⟨a1, k1, rfl⟩ := h.cps.form
  obtain ⟨a2, k2, rfl⟩ := h.bes.form
  clear h hv h0 hX1 hX2 hJ hY hJ0 hp hM s0 s1 s2 s3 s4 g0 g1 g2 g3 g5 hlk hW
  refine callsIn_of_wp_marks Tryz.func97 rfl trivial ?_ rfl
  simp only [Tryz.ntmps97, List.size_toArray, List.length_cons, List.length_nil, Nat.reduceAdd, Nat.reduceSub, Array.replicate_succ, Array.replicate_zero, List.push_toArray, List.append_toArray, List.nil_append, List.cons_append]
  gi_wp2_with fail
  clear g0a g1a g2a g3a g5a
  refine ⟨trivial, fun _ => by omega, (copiesOf_in B.now x.nm _ Fence.wide _ trivial rfl a0 a1 a2 B.ss.length B.cs.length B.bs.length k0 k1 k2).mono ?_⟩
  rintro e w1 ⟨rfl, hw1⟩
  obtain ⟨wl, hwl, FX1, FX2, HBl, hsz⟩ : ∃ wl, wl = w1 ∧ Hid (Box wl (W.heap.size + 1) #[.int .i64 B.now, .slice a0 B.ss.length k0, .slice a1 B.cs.length k1, .slice a2 B.bs.length k2]) ∧ Hid (Box wl (W.heap.size + 1 + 1) #[.string x.nm]) ∧ Hid (LvW w0 B2 W.heap.size l pf b0 (J []) wl) ∧ wl.heap.size = W.heap.size + 3 := by
    subst hw1
    refine ⟨_, rfl, (Box.new _ _ _ _ (by simp)).on (one_al _ _), Box.new _ _ _ _ (by simp), ⟨?_, ?_, ?_, ?_⟩, by simp⟩
    · exact HJ.out.alloc _ (HJ.out.alloc _ (HJ.out.alloc _ HJ0.out))
    · exact ((F2.out.on (one_al _ _)).on (one_al _ _)).on (one_al _ _)
    · exact ((Box.new _ _ _ _ rfl).on (one_al _ _)).on (one_al _ _)
    · exact ((bt H0.out (one_al _ _)).trans ((one_al _ _).mono (by simp; omega))).trans ((one_al _ _).mono (by simp; omega))
  subst hwl
  clear hw1 H0 HJ0 F1 F2
  simp only [World.size_alloc]
  gi_wp2_with fail
  refine wpIn_rangeFunc_ownH rfl (by omega) (gf := 126) (lb := #[.pointer (some ⟨W.heap.size + 1, 0, none⟩), .pointer (some ⟨W.heap.size + 1 + 1, 0, none⟩)]) rfl trivial (enters_of Tryz.func126 (by kernel_rfl) rfl)
    (copies_sub lo B.now _ _ _ M x.nm wl _ (by omega) S w0 _ _ w.heap.size hw0 B.cs HM.out HBl.out.below HK.out.cps (by have := HVC.out.1; omega) HVC.out.2.2.1 HVC.out.2.2.2 S0.out S4.out FX1.out FX2.out ⟨_, _, _, rfl⟩ ⟨_, _, _, rfl⟩)
    KeepsBut.trans (fun X j o o' hj h1 h2 h3 => KeepsBut.put (w := w) X j o o' (by omega) h1 h2 h3) (Below.refl _ _) (fun _ => rfl)
    (fun pre X => LvW w0 B2 W.heap.size l pf b0 (J (pre.filter fun y => !y.1.en && p y.1)) X ∧ W.heap.size + 3 ≤ X.heap.size)
    (fun _ _ _ => False)
    (fun s X Y row hs hg hr => ⟨⟨HJ.out _ X Y row hs.1.j hg (fun r e => ⟨by have := (hr r e).1; omega, (hr r e).2⟩),
      hs.1.so.ofBlk (hg.block _ hs.1.so.lt (fun e => by have := (hr _ e.symm).1; omega)),
      hs.1.yi.ofBlk (hg.block _ hs.1.yi.lt (fun e => by have := (hr _ e.symm).1; omega)),
      hs.1.below.trans ⟨hg.os, hg.tape, hg.output, hg.size, fun k hk => hg.block k (Nat.lt_of_lt_of_le hk hs.1.below.size) (fun e => by have := (hr _ e.symm).1; omega)⟩⟩, Nat.le_trans hs.2 hg.size⟩)
    (fun _ _ _ _ _ hs _ _ => hs)
    ⟨HBl.out, by omega⟩
    (fun y a' X => ∃ β : Nat, W.heap.size + 3 ≤ β ∧ a' = { tmps := #[.func (.yield l) #[] #[], .pointer (some ⟨B1, 0, none⟩), .pointer (some ⟨B2, 0, none⟩), .pointer (some ⟨W.heap.size, 0, none⟩), .pointer (some ⟨β, 0, none⟩), .pointer (some ⟨B1, 0, none⟩), .pointer (some ⟨B1, 0, none⟩), .agg #[.int .i64 B.now, .slice a0 B.ss.length k0, .slice a1 B.cs.length k1, .slice a2 B.bs.length k2], .pointer (some ⟨B1, 5, none⟩), .pointer (some ⟨B1, 5, none⟩), .string x.nm, .func (.func 126) #[] #[.pointer (some ⟨W.heap.size + 1, 0, none⟩), .pointer (some ⟨W.heap.size + 1 + 1, 0, none⟩)], .agg #[.string y.1.se, .int .i64 y.1.nu, .int .i64 y.1.ve, .int .i64 y.1.im, .int .i64 y.1.st, .bool y.1.en, .string y.1.be], undef, undef, undef, undef, undef, undef, undef, undef, undef, undef, undef, undef, undef, undef], defers := [] } ∧ Box X β #[.string y.1.se, .int .i64 y.1.nu, .int .i64 y.1.ve, .int .i64 y.1.im, .int .i64 y.1.st, .bool y.1.en, .string y.1.be])
    (fun y a' s X Y row hs hg hr => by
      obtain ⟨β, hβ, e1, e2⟩ := hs
      exact ⟨β, hβ, e1, e2.ofBlk (hg.block _ e2.lt (fun e => by
        obtain ⟨-, o, ho, hc⟩ := hr _ e.symm
        obtain ⟨o', ho', hc'⟩ := cells_of_cell (e2.cell 0)
        rw [ho] at ho'
        cases ho'
        rw [hc] at hc'
        cases hc'))⟩) ?assign ?body ?done ?stop
  case assign =>
    intro l' pre y X K hI hK
    have HI := hide hI.1
    have HK' := hide hK
    have hz6 := hI.2
    clear hI hK
    gi_wp2
    refine HK'.out _ _ ((KeepsOthers.alloc _ _).from _) (KeepsBut.grow (World.grownBy_alloc _ _ none)) ⟨⟨HJ.out.alloc _ HI.out.j, HI.out.so.on (one_al _ _), HI.out.yi.on (one_al _ _), bt HI.out.below (one_al _ _)⟩, by simp; omega⟩ ⟨X.heap.size, hz6, rfl, Box.new _ _ _ _ rfl⟩
  case body =>
    rintro l' pre y a' X hll hrec ⟨hI, hz6⟩ ⟨β, hβ, rfl, hY2⟩ hlen
    have HI := hide hI
    have FB := hide hY2
    have y5 := hY2.cell 5
    simp at y5
    clear hI hY2 hrec
    have HF : Hid (∀ b : Bool, (!y.1.en && p y.1) = b → ((pre ++ [y]).filter fun y => !y.1.en && p y.1) = (pre.filter fun y => !y.1.en && p y.1) ++ (if b then [y] else [])) := fun b hb => by
      rw [List.filter_append, List.filter_cons, hb]
      rfl
    cases q5 : y.1.en with
    | true =>
      have HE : Hid (((pre ++ [y]).filter fun y => !y.1.en && p y.1) = pre.filter fun y => !y.1.en && p y.1) := by
        unfold Hid
        rw [HF.out false (by rw [q5]; rfl)]
        simp
      rw [q5] at y5
      gi_wp2
      all_goals (refine ⟨fun _ h => (by cases h), ?_⟩; gi_wp2)
      exact ⟨KeepsFrom.refl _ _, KeepsBut.refl _ _ _, ⟨by rw [HE.out]; exact HI.out.j, HI.out.so, HI.out.yi, HI.out.below⟩, hz6⟩
    | false =>
      rw [q5] at y5
      have so0 := HI.out.so.cell 0
      simp at so0
      have yc := FB.out.cell
      gi_wp2_with fail
      clear so0 yc y5
      have hpc := HP.out X y HI.out.below
      rw [q5] at hpc
      refine ⟨trivial, fun _ => by omega, (CallsIn.inRound l' (callsIn_wide.2 hpc)).mono ?_⟩
      rintro e X2 ⟨rfl, hb2⟩
      clear hpc
      have HB2 := hide hb2
      have hx2 := hb2.size
      have hJ2 := HJ.out _ X X2 none HI.out.j (grown_of_below hb2) (fun r e => by cases e)
      have HL2 : Hid (LvW w0 B2 W.heap.size l pf b0 (J (pre.filter fun y => !y.1.en && p y.1)) X2) := ⟨hJ2, HI.out.so.on hb2, HI.out.yi.on hb2, bt HI.out.below hb2⟩
      have FB2 := hide (FB.out.on hb2)
      clear hb2 hJ2 FB
      cases qp : p y.1 with
      | false =>
        have HE : Hid (((pre ++ [y]).filter fun y => !y.1.en && p y.1) = pre.filter fun y => !y.1.en && p y.1) := by
          unfold Hid
          rw [HF.out false (by rw [q5, qp]; rfl)]
          simp
        gi_wp2
        all_goals (refine ⟨fun _ h => (by cases h), ?_⟩; gi_wp2)
        exact ⟨KeepsFrom.ofBelow HB2.out, KeepsBut.grow (grown_of_below HB2.out), ⟨by rw [HE.out]; exact HL2.out.j, HL2.out.so, HL2.out.yi, HL2.out.below⟩, by omega⟩
      | true =>
        have HE : Hid (((pre ++ [y]).filter fun y => !y.1.en && p y.1) = (pre.filter fun y => !y.1.en && p y.1) ++ [y]) := by
          unfold Hid
          rw [HF.out true (by rw [q5, qp]; rfl)]
          rfl
        have yi0 := HL2.out.yi.cell 0
        simp at yi0
        have yc := FB2.out.cell
        obtain ⟨fn, tmps, assign, body, hy, hR⟩ := yield_any (n - 1 - 1 - 1) (HY.out _ y X2 HL2.out.j (Nat.lt_of_le_of_lt (List.length_filter_le _ _) hlen) (by omega))
        dsimp only [encL] at hy
        rw [q5] at hy
        have HR := hide hR
        clear hR
        gi_wp2
        clear yi0 yc hy
        refine ⟨fun _ => by omega, RoundIn.mono (F := Fence.wide) HR.out ?_⟩
        rintro e X3 ⟨rfl, hJ3, hk3, hf3⟩
        have HL3 : Hid (LvW w0 B2 W.heap.size l pf b0 (J ((pre ++ [y]).filter fun y => !y.1.en && p y.1)) X3) :=
          ⟨by rw [HE.out]; exact hJ3, HL2.out.so.keepB hk3 S2.out rfl, HL2.out.yi.keepB hk3 S3.out rfl, HL2.out.below.trans (hk3.below HL2.out.below.size S0.out hw0)⟩
        have HK3 : Hid (KeepsBut S w.heap.size X X3) := (KeepsBut.grow (grown_of_below HB2.out)).trans hk3
        have HF3 : Hid (KeepsFrom wl.heap.size X X3) := (KeepsFrom.ofBelow HB2.out).trans (KeepsFrom.up hf3 (by omega))
        have hx3 := hk3.size
        clear hJ3 hk3 hf3
        gi_wp2
        rw [hsz] at HF3
        exact ⟨HF3.out, HK3.out, HL3.out, by omega⟩
  case done =>
    rintro Dd ys X hD rfl ⟨hI, hz⟩ hKd
    have HI := hide hI
    clear hI
    gi_wp2
    refine ⟨by simp, .inl ⟨_, _, rfl, run_takeDeferred hKd, ?_⟩⟩
    have hj := HJ.out.putObj (.deferred none) HI.out.j (by omega) hKd rfl
    rw [List.filter_filter] at hj
    exact ⟨_, results_none rfl _ _ _, ⟨_, rfl⟩, hj⟩
  case stop =>
    rintro Dd c pre X hD hSp hF
    exact hF.elim
end
end Go.Proofs.YtpdlcccnlciecaaGreat
