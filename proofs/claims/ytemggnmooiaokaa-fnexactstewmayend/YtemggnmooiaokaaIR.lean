
import Derived.Test.YtemggnmooiaokaaIU
namespace Go.Proofs.Ytemggnmooiaokaa
open Go.RowKit Go.Deep Go.Shelf

attribute [local go_sem] Oper.semAt_some

/-- another one that is ready -/
def besQ (x y : Cp) : Bool := (y.nu != x.nu) && (!y.en) && (y.st == 3)
/-- the world while others are counted -/
structure BesW (w : World) (x : Cp) (pre : List Cp) (W : World) : Prop where
  one : Box W (w.heap.size + 1) #[.string x.se, .int .i64 x.nu, .int .i64 x.ve, .int .i64 x.im, .int .i64 x.st, .bool x.en, .string x.be]
  cnt : Box W (w.heap.size + 1 + 1) #[.int .i64 (ct (besQ x) pre)]
  below : Below w.heap.size w W
  big : w.heap.size + 5 ≤ W.heap.size
theorem BesW.grow {w : World} {x : Cp} {pre : List Cp} {W W' : World} {row : Option Nat} (h : BesW w x pre W) (hg : W.grownBy W' row) (hr : ∀ r, row = some r → w.heap.size + 5 ≤ r) : BesW w x pre W' :=
  ⟨h.one.ofBlk (hg.block _ h.one.lt (fun e => by have := hr _ e.symm; omega)), h.cnt.ofBlk (hg.block _ h.cnt.lt (fun e => by have := hr _ e.symm; omega)),
    h.below.trans ⟨hg.os, hg.tape, hg.output, hg.size, fun k hk => hg.block k (by have := h.below.size; omega) (fun e => by have := hr _ e.symm; omega)⟩, Nat.le_trans h.big hg.size⟩

section
variable (lo : Nat) (now : Int) (sv cv bv : Value) (L : List Cp) (x : Cp) (w : World)

set_option maxRecDepth 100000 in
set_option maxHeartbeats 8000000 in
theorem beside_any (hL : CpsAt lo w cv L) (n1 : L.length ≤ 1048576) (hr : risR aheadB L = true) (hnu : ∀ i (h : i < L.length), 1 ≤ L[i].nu) (h0 : ∃ a n k, sv = .slice a n k) (h2 : ∃ a n k, bv = .slice a n k) :
    Calls Try.prog 57 #[.agg #[.int .i64 now, sv, cv, bv], .agg #[.string x.se, .int .i64 x.nu, .int .i64 x.ve, .int .i64 x.im, .int .i64 x.st, .bool x.en, .string x.be]] w
      fun e w' => ∃ c : Int, e = .returned (.int .i64 c) ∧ Hid (c = ct (besQ x) (L.filter (mineB x.se))) ∧ Below w.heap.size w w' := by
  have HL := hide hL
  have HR := hide hr
  have HNU := hide hnu
  obtain ⟨a1, k1, rfl⟩ := hL.form
  obtain ⟨a0, n0, k0, rfl⟩ := h0
  obtain ⟨a2, n2, k2, rfl⟩ := h2
  clear hL hr hnu
  refine (callsIn_wide (n := 5)).1 ?_
  refine callsIn_of_wp_marks Try.func57 rfl trivial ?_ rfl
  simp only [Try.ntmps57, List.size_toArray, List.length_cons, List.length_nil, Nat.reduceAdd, Nat.reduceSub, Array.replicate_succ, Array.replicate_zero, List.push_toArray, List.append_toArray, List.nil_append, List.cons_append]
  gi_wp2_with fail
  refine ⟨trivial, (copiesOf_in now x.se _ Fence.wide _ trivial rfl a0 a1 a2 n0 L.length n2 k0 k1 k2).mono ?_⟩
  rintro e w1 ⟨rfl, hw1⟩
  obtain ⟨wl, hwl, HX1, HX2, HW, hsz⟩ : ∃ wl, wl = w1 ∧ Hid (Box wl (w.heap.size + 1 + 1 + 1) #[.int .i64 now, .slice a0 n0 k0, .slice a1 L.length k1, .slice a2 n2 k2]) ∧ Hid (Box wl (w.heap.size + 1 + 1 + 1 + 1) #[.string x.se]) ∧ Hid (BesW w x [] wl) ∧ wl.heap.size = w.heap.size + 5 := by
    subst hw1
    refine ⟨_, rfl, (Box.new _ _ _ _ (by simp)).on (one_al _ _), Box.new _ _ _ _ (by simp), ⟨?_, ?_, ?_, by simp⟩, by simp⟩
    · exact (((Box.new _ _ _ _ (by simp)).on (one_al _ _)).on (one_al _ _)).on (one_al _ _)
    · exact ((Box.new _ _ _ _ (by simp)).on (one_al _ _)).on (one_al _ _)
    · exact ((((one_al _ _).trans ((one_al _ _).mono (by simp))).trans ((one_al _ _).mono (by simp; omega))).trans ((one_al _ _).mono (by simp; omega))).trans ((one_al _ _).mono (by simp; omega))
  subst hwl
  clear hw1
  gi_wp2_with fail
  refine wpIn_rangeFunc_ownH rfl (by decide) (gf := 62) (lb := #[.pointer (some ⟨w.heap.size + 1 + 1 + 1, 0, none⟩), .pointer (some ⟨w.heap.size + 1 + 1 + 1 + 1, 0, none⟩)]) rfl trivial (enters_of Try.func62 (by kernel_rfl) rfl)
    (copies_stops lo now _ _ _ L x.se wl _ (by decide) (fun k => k = w.heap.size + 1 + 1) w _ _ HW.out.below HL.out n1 HR.out HNU.out (fun k hk he => by omega) (by omega) HX1.out HX2.out ⟨_, _, _, rfl⟩ ⟨_, _, _, rfl⟩)
    KeepsBut.trans KeepsBut.put (Below.refl _ _) (fun _ => rfl)
    (fun pre W => BesW w x pre W)
    (fun _ _ _ => False)
    (fun s A B row hs hg hr => hs.grow hg (fun r e => by have := (hr r e).1; omega))
    (fun _ _ _ _ _ hs _ _ => hs)
    HW.out
    (fun y a' W => ∃ β : Nat, w.heap.size + 5 ≤ β ∧ a' = { tmps := #[.agg #[.int .i64 now, .slice a0 n0 k0, .slice a1 L.length k1, .slice a2 n2 k2], .agg #[.string x.se, .int .i64 x.nu, .int .i64 x.ve, .int .i64 x.im, .int .i64 x.st, .bool x.en, .string x.be], .pointer (some ⟨w.heap.size, 0, none⟩), .pointer (some ⟨w.heap.size + 1, 0, none⟩), .int .i64 0, .pointer (some ⟨w.heap.size + 1 + 1, 0, none⟩), .pointer (some ⟨β, 0, none⟩), .agg #[.int .i64 now, .slice a0 n0 k0, .slice a1 L.length k1, .slice a2 n2 k2], .pointer (some ⟨w.heap.size + 1, 0, none⟩), .string x.se, .func (.func 62) #[] #[.pointer (some ⟨w.heap.size + 1 + 1 + 1, 0, none⟩), .pointer (some ⟨w.heap.size + 1 + 1 + 1 + 1, 0, none⟩)], .agg #[.string y.se, .int .i64 y.nu, .int .i64 y.ve, .int .i64 y.im, .int .i64 y.st, .bool y.en, .string y.be], undef, undef, undef, undef, undef, undef, undef, undef, undef, undef, undef, undef, undef, undef, undef, undef, undef, undef], defers := [] } ∧ Box W β #[.string y.se, .int .i64 y.nu, .int .i64 y.ve, .int .i64 y.im, .int .i64 y.st, .bool y.en, .string y.be])
    (fun y a' s A B row hs hg hr => by
      obtain ⟨β, hβ, e1, e2⟩ := hs
      exact ⟨β, hβ, e1, e2.ofBlk (hg.block _ e2.lt (fun e => by
        obtain ⟨-, o, ho, hc⟩ := hr _ e.symm
        obtain ⟨o', ho', hc'⟩ := cells_of_cell (e2.cell 0)
        rw [ho] at ho'
        cases ho'
        rw [hc] at hc'
        cases hc'))⟩) ?assign ?body ?done ?stop
  case assign =>
    intro l pre y W K hI hK
    have HI := hide hI
    have HK := hide hK
    have hz := hI.below.size
    have hz6 := hI.big
    clear hI hK
    gi_wp2
    refine HK.out _ _ ((KeepsOthers.alloc _ _).from _) (KeepsBut.grow (World.grownBy_alloc _ _ none)) (HI.out.grow (World.grownBy_alloc _ _ none) (fun r e => by cases e)) ⟨W.heap.size, hz6, rfl, Box.new _ _ _ _ rfl⟩
  case body =>
    rintro l pre y a' W hll hrec hI ⟨β, hβ, rfl, hY⟩ hlen
    have HI := hide hI
    have y1 := hY.cell 1
    have y4 := hY.cell 4
    have y5 := hY.cell 5
    have x1 := hI.one.cell 1
    simp at y1 y4 y5 x1
    obtain ⟨z, ez⟩ : ∃ z, z = ct (besQ x) pre := ⟨_, rfl⟩
    have HCB : Hid (Box W (w.heap.size + 1 + 1) #[.int .i64 z]) := by
      unfold Hid
      rw [ez]
      exact hI.cnt
    have b0 : 0 ≤ z ∧ z ≤ 1048576 := by have := ct_bd (besQ x) pre; omega
    have v0 : IntKind.i64.wrap (z + 1) = z + 1 := by rw [IntWalk.i64_left]; unfold wrap64; omega
    have HCN : Hid (ct (besQ x) (pre ++ [y]) = z + if besQ x y then 1 else 0) := by
      unfold Hid
      rw [ct_snoc, ez]
    have m0 := HCB.out.cell 0
    have f0 := HCB.out.free
    simp at m0
    clear ez b0
    have HS : Hid (∀ W', Box W' (w.heap.size + 1 + 1) #[.int .i64 (ct (besQ x) (pre ++ [y]))] → Below w.heap.size w W' → w.heap.size + 5 ≤ W'.heap.size → (∀ b, b ≠ w.heap.size + 1 + 1 → W'.heap[b]? = W.heap[b]?) → BesW w x (pre ++ [y]) W') := fun W' h1 h2 hbg h3 =>
      ⟨HI.out.one.ofBlk (h3 _ (by omega)), h1, h2, hbg⟩
    clear hI hY hrec hlen
    cases q1 : (y.nu != x.nu) with
    | false =>
      have HE : Hid (ct (besQ x) (pre ++ [y]) = z) := by
        unfold Hid
        rw [HCN.out]
        simp [besQ, q1]
      gi_wp2
      have hst : Sets (w.heap.size + 1 + 1) W W := Sets.refl _ _
      exact ⟨hst.ko.from _, hst.kb _ _ rfl, HS.out W (by rw [HE.out]; exact HCB.out) HI.out.below HI.out.big (fun _ _ => rfl)⟩
    | true =>
      cases q5 : y.en with
      | true =>
        have HE : Hid (ct (besQ x) (pre ++ [y]) = z) := by
          unfold Hid
          rw [HCN.out]
          simp [besQ, q1, q5]
        gi_wp2
        have hst : Sets (w.heap.size + 1 + 1) W W := Sets.refl _ _
        exact ⟨hst.ko.from _, hst.kb _ _ rfl, HS.out W (by rw [HE.out]; exact HCB.out) HI.out.below HI.out.big (fun _ _ => rfl)⟩
      | false =>
        cases q4 : (y.st == 3) with
        | false =>
          have HE : Hid (ct (besQ x) (pre ++ [y]) = z) := by
            unfold Hid
            rw [HCN.out]
            simp [besQ, q1, q5, q4]
          gi_wp2
          have hst : Sets (w.heap.size + 1 + 1) W W := Sets.refl _ _
          exact ⟨hst.ko.from _, hst.kb _ _ rfl, HS.out W (by rw [HE.out]; exact HCB.out) HI.out.below HI.out.big (fun _ _ => rfl)⟩
        | true =>
          have HE : Hid (ct (besQ x) (pre ++ [y]) = z + 1) := by
            unfold Hid
            rw [HCN.out]
            simp [besQ, q1, q5, q4]
          gi_wp2
          have hst : Sets (w.heap.size + 1 + 1) W (W.setCell ⟨w.heap.size + 1 + 1, 0, none⟩ (.int .i64 (z + 1))) := (Sets.refl _ _).set _ _
          have hbx : Box (W.setCell ⟨w.heap.size + 1 + 1, 0, none⟩ (.int .i64 (z + 1))) (w.heap.size + 1 + 1) #[.int .i64 (z + 1)] := (HCB.out.set (k := 0) (.int .i64 (z + 1)) (by simp))
          generalize (W.setCell ⟨w.heap.size + 1 + 1, 0, none⟩ (.int .i64 (z + 1))) = W' at *
          exact ⟨hst.ko.from _, hst.kb _ _ rfl, HS.out W' (by rw [HE.out]; exact hbx) (HI.out.below.trans (hst.bl _ (by omega))) (by have := HI.out.big; have := hst.sz; omega) hst.oth⟩
  case done =>
    rintro Dd ys W hD rfl hI hK
    have HI := hide hI
    have m0 := hI.cnt.cell
    clear hI
    gi_wp2
    have hK2 : W.heap[Dd]? = some (.deferred (some [])) := hK
    have hDd : w.heap.size + 5 ≤ Dd := by omega
    refine ⟨by simp, .inl ⟨_, _, rfl, run_takeDeferred hK2, ?_⟩⟩
    refine ⟨.int .i64 (ct (besQ x) (L.filter (mineB x.se))), by simp [results, Try.results57, go_sem], _, rfl, rfl, HI.out.below.trans (belowK_b (w := w) (Nat.le_refl _) W Dd _ _ (by omega) hK2 rfl rfl)⟩
  case stop =>
    rintro Dd c pre W hD hSp hF
    exact hF.elim
end
end Go.Proofs.Ytemggnmooiaokaa
