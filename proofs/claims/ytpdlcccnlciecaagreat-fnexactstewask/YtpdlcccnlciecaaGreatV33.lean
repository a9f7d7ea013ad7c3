import Derived.Test.YtpdlcccnlciecaaGreatV32
import Derived.RangeFuncWrites
namespace Go.Proofs.YtpdlcccnlciecaaGreat
open Go.RowKit Go.Deep Go.Shelf

attribute [local go_sem] Oper.semAt_some

theorem Box.ofBlk {w w' : World} {β : Nat} {cs : Array Value} (h : Box w β cs) (e : w'.heap[β]? = w.heap[β]?) : Box w' β cs :=
  ⟨by have := h.lt; rw [Array.getElem?_eq_getElem this] at e; exact (Array.getElem?_eq_some_iff.1 e).1, fun i => (World.cell?_of_block (a := ⟨β, i, none⟩) e).trans (h.cell i), fun i => (World.frozen?_of_block (a := ⟨β, i, none⟩) e).trans (h.free i)⟩
/-- only cells of one block were written -/
structure Sets (β : Nat) (W W' : World) : Prop where
  ko : KeepsOthers W W'
  kb : ∀ (S : Nat → Prop) (B : Nat), S β → KeepsBut S B W W'
  bl : ∀ n, n ≤ β → Below n W W'
  oth : ∀ b, b ≠ β → W'.heap[b]? = W.heap[b]?
  sz : W'.heap.size = W.heap.size
theorem Sets.refl (β : Nat) (W : World) : Sets β W W := ⟨KeepsOthers.refl _, fun _ _ _ => KeepsBut.refl _ _ _, fun _ _ => Below.refl _ _, fun _ _ => rfl, rfl⟩
theorem Sets.set {β : Nat} {W W' : World} (h : Sets β W W') (k : Nat) (u : Value) : Sets β W (W'.setCell ⟨β, k, none⟩ u) :=
  ⟨h.ko.trans (KeepsOthers.setCell _ _ _), fun S B hS => (h.kb S B hS).trans (KeepsBut.set _ _ _ hS), fun n hn => (h.bl n hn).setCell hn u, fun b hb => (Below.heap_setCell _ _ _ b hb).trans (h.oth b hb), by rw [← h.sz]; simp [World.setCell]⟩
/-- counts over the copies of one service -/
def lvQ (c : Cp) : Bool := !c.en
def rdQ (c : Cp) : Bool := !c.en && (c.st == 3)
def olQ (im : Int) (c : Cp) : Bool := !c.en && (c.im != im)
def faQ (c : Cp) : Bool := !c.en && (c.st == 4)
def enQ (c : Cp) : Bool := c.en
theorem ct_snoc (p : Cp → Bool) (pre : List Cp) (c : Cp) : ct p (pre ++ [c]) = ct p pre + (if p c then 1 else 0) := by
  unfold ct
  rw [List.countP_append, List.countP_singleton]
  split <;> simp
theorem ct_bd (p : Cp → Bool) (L : List Cp) : 0 ≤ ct p L ∧ ct p L ≤ L.length := by
  unfold ct
  have := List.countP_le_length (p := p) (l := L)
  omega
theorem ct_filter {p q r : Cp → Bool} (h : ∀ c, r c = (q c && p c)) (L : List Cp) : ct p (L.filter q) = ct r L := by
  unfold ct
  rw [List.countP_filter]
  congr 1
  exact List.countP_congr fun c _ => by rw [h c, Bool.and_comm]
theorem ctL_filter (L : List Cp) (s : ByteArray) (im : Int) : ctL L s im = ⟨ct lvQ (L.filter (mineB s)), ct rdQ (L.filter (mineB s)), ct (olQ im) (L.filter (mineB s)), ct faQ (L.filter (mineB s)), ct enQ (L.filter (mineB s))⟩ := by
  unfold ctL
  rw [ct_filter (p := lvQ) (r := liveB s) (fun c => rfl), ct_filter (p := rdQ) (r := rdyB s) (fun c => by simp only [rdyB, liveB, rdQ, Bool.and_assoc]), ct_filter (p := olQ im) (r := oldB s im) (fun c => by simp only [oldB, liveB, olQ, Bool.and_assoc]),
    ct_filter (p := faQ) (r := falB s) (fun c => by simp only [falB, liveB, faQ, Bool.and_assoc]), ct_filter (p := enQ) (r := endB s) (fun c => rfl)]
abbrev cnt5 (im : Int) (pre : List Cp) : Array Value := #[.int .i64 (ct lvQ pre), .int .i64 (ct rdQ pre), .int .i64 (ct (olQ im) pre), .int .i64 (ct faQ pre), .int .i64 (ct enQ pre)]
/-- the world while copies are counted -/
structure CntW (w : World) (x : Sv) (pre : List Cp) (W : World) : Prop where
  svc : Box W (w.heap.size + 1) #[.string x.nm, .int .i64 x.ve, .bool x.gn, .int .i64 x.im, .int .i64 x.wa, .int .i64 x.dn, .int .i64 x.ov, .int .i64 x.nx, .int .i64 x.pr, .int .i64 x.ls, .int .i64 x.ms, .int .i64 x.ld, .int .i64 x.cl]
  res : Box W (w.heap.size + 1 + 1) #[.int .i64 0, .int .i64 0, .int .i64 0, .int .i64 0, .int .i64 0]
  cnt : Box W (w.heap.size + 1 + 1 + 1) (cnt5 x.im pre)
  below : Below w.heap.size w W
  big : w.heap.size + 6 ≤ W.heap.size
theorem CntW.grow {w : World} {x : Sv} {pre : List Cp} {W W' : World} {row : Option Nat} (h : CntW w x pre W) (hg : W.grownBy W' row) (hr : ∀ r, row = some r → w.heap.size + 6 ≤ r) : CntW w x pre W' :=
  ⟨h.svc.ofBlk (hg.block _ h.svc.lt (fun e => by have := hr _ e.symm; omega)), h.res.ofBlk (hg.block _ h.res.lt (fun e => by have := hr _ e.symm; omega)), h.cnt.ofBlk (hg.block _ h.cnt.lt (fun e => by have := hr _ e.symm; omega)),
    h.below.trans ⟨hg.os, hg.tape, hg.output, hg.size, fun k hk => hg.block k (by have := h.below.size; omega) (fun e => by have := hr _ e.symm; omega)⟩, Nat.le_trans h.big hg.size⟩

section
variable (lo : Nat) (now : Int) (sv cv bv : Value) (L : List Cp) (x : Sv) (w : World)

set_option maxRecDepth 100000 in
set_option maxHeartbeats 8000000 in
theorem countIn_any (hL : CpsAt lo w cv L) (n1 : L.length ≤ 1048576) (hr : risR aheadB L = true) (hnu : ∀ i (h : i < L.length), 1 ≤ L[i].nu) (h0 : ∃ a n k, sv = .slice a n k) (h2 : ∃ a n k, bv = .slice a n k) :
    Calls Tryz.prog 72 #[.agg #[.int .i64 now, sv, cv, bv], .agg #[.string x.nm, .int .i64 x.ve, .bool x.gn, .int .i64 x.im, .int .i64 x.wa, .int .i64 x.dn, .int .i64 x.ov, .int .i64 x.nx, .int .i64 x.pr, .int .i64 x.ls, .int .i64 x.ms, .int .i64 x.ld, .int .i64 x.cl]] w
      fun e w' => ∃ c : Ct, e = .returned (.agg #[.int .i64 c.li, .int .i64 c.re, .int .i64 c.ol, .int .i64 c.fa, .int .i64 c.en]) ∧ Hid (c = ctL L x.nm x.im) ∧ Below w.heap.size w w' := by
  have HL := hide hL
  have HR := hide hr
  have HNU := hide hnu
  obtain ⟨a1, k1, rfl⟩ := hL.form
  obtain ⟨a0, n0, k0, rfl⟩ := h0
  obtain ⟨a2, n2, k2, rfl⟩ := h2
  clear hL hr hnu
  refine (callsIn_wide (n := 5)).1 ?_
  refine callsIn_of_wp_marks Tryz.func72 rfl trivial ?_ rfl
  simp only [Tryz.ntmps72, List.size_toArray, List.length_cons, List.length_nil, Nat.reduceAdd, Nat.reduceSub, Array.replicate_succ, Array.replicate_zero, List.push_toArray, List.append_toArray, List.nil_append, List.cons_append]
  gi_wp2_with fail
  refine ⟨trivial, (copiesOf_in now x.nm _ Fence.wide _ trivial rfl a0 a1 a2 n0 L.length n2 k0 k1 k2).mono ?_⟩
  rintro e w1 ⟨rfl, hw1⟩
  obtain ⟨wl, hwl, HX1, HX2, HW, hsz⟩ : ∃ wl, wl = w1 ∧ Hid (Box wl (w.heap.size + 1 + 1 + 1 + 1) #[.int .i64 now, .slice a0 n0 k0, .slice a1 L.length k1, .slice a2 n2 k2]) ∧ Hid (Box wl (w.heap.size + 1 + 1 + 1 + 1 + 1) #[.string x.nm]) ∧ Hid (CntW w x [] wl) ∧ wl.heap.size = w.heap.size + 6 := by
    subst hw1
    refine ⟨_, rfl, (Box.new _ _ _ _ (by simp)).on (one_al _ _), Box.new _ _ _ _ (by simp), ⟨?_, ?_, ?_, ?_, by simp⟩, by simp⟩
    · exact ((((Box.new _ _ _ _ (by simp)).on (one_al _ _)).on (one_al _ _)).on (one_al _ _)).on (one_al _ _)
    · exact (((Box.new _ _ _ _ (by simp)).on (one_al _ _)).on (one_al _ _)).on (one_al _ _)
    · exact ((Box.new _ _ _ _ (by simp)).on (one_al _ _)).on (one_al _ _)
    · exact (((((one_al _ _).trans ((one_al _ _).mono (by simp))).trans ((one_al _ _).mono (by simp; omega))).trans ((one_al _ _).mono (by simp; omega))).trans ((one_al _ _).mono (by simp; omega))).trans ((one_al _ _).mono (by simp; omega))
  subst hwl
  clear hw1
  gi_wp2_with fail
  refine wpIn_rangeFunc_ownH rfl (by decide) (gf := 126) (lb := #[.pointer (some ⟨w.heap.size + 1 + 1 + 1 + 1, 0, none⟩), .pointer (some ⟨w.heap.size + 1 + 1 + 1 + 1 + 1, 0, none⟩)]) rfl trivial (enters_of Tryz.func126 (by kernel_rfl) rfl)
    (copies_stops lo now _ _ _ L x.nm wl _ (by decide) (fun k => k = w.heap.size + 1 + 1 + 1) w _ _ HW.out.below HL.out n1 HR.out HNU.out (fun k hk he => by omega) (by omega) HX1.out HX2.out ⟨_, _, _, rfl⟩ ⟨_, _, _, rfl⟩)
    KeepsBut.trans KeepsBut.put (Below.refl _ _) (fun _ => rfl)
    (fun pre W => CntW w x pre W)
    (fun _ _ _ => False)
    (fun s A B row hs hg hr => hs.grow hg (fun r e => by have := (hr r e).1; omega))
    (fun _ _ _ _ _ hs _ _ => hs)
    HW.out
    (fun y a' W => ∃ β : Nat, w.heap.size + 6 ≤ β ∧ a' = { tmps := #[.agg #[.int .i64 now, .slice a0 n0 k0, .slice a1 L.length k1, .slice a2 n2 k2], .agg #[.string x.nm, .int .i64 x.ve, .bool x.gn, .int .i64 x.im, .int .i64 x.wa, .int .i64 x.dn, .int .i64 x.ov, .int .i64 x.nx, .int .i64 x.pr, .int .i64 x.ls, .int .i64 x.ms, .int .i64 x.ld, .int .i64 x.cl], .pointer (some ⟨w.heap.size, 0, none⟩), .pointer (some ⟨w.heap.size + 1, 0, none⟩), .pointer (some ⟨w.heap.size + 1 + 1, 0, none⟩), .pointer (some ⟨w.heap.size + 1 + 1 + 1, 0, none⟩), .pointer (some ⟨β, 0, none⟩), .agg #[.int .i64 now, .slice a0 n0 k0, .slice a1 L.length k1, .slice a2 n2 k2], .pointer (some ⟨w.heap.size + 1, 0, none⟩), .string x.nm, .func (.func 126) #[] #[.pointer (some ⟨w.heap.size + 1 + 1 + 1 + 1, 0, none⟩), .pointer (some ⟨w.heap.size + 1 + 1 + 1 + 1 + 1, 0, none⟩)], .agg #[.string y.se, .int .i64 y.nu, .int .i64 y.ve, .int .i64 y.im, .int .i64 y.st, .bool y.en, .string y.be], undef, undef, undef, undef, undef, undef, undef, undef, undef, undef, undef, undef, undef, undef, undef, undef, undef, undef, undef, undef, undef, undef, undef, undef, undef, undef, undef, undef, undef, undef, undef, undef, undef, undef], defers := [] } ∧ Box W β #[.string y.se, .int .i64 y.nu, .int .i64 y.ve, .int .i64 y.im, .int .i64 y.st, .bool y.en, .string y.be])
    (fun y a' s A B row hs hg hr => by
      obtain ⟨β, hβ, e1, e2⟩ := hs
      exact ⟨β, hβ, e1, e2.ofBlk (hg.block _ e2.lt (fun e => by
        obtain ⟨-, o, ho, hc⟩ := hr _ e.symm
        obtain ⟨o', ho', hc'⟩ := cells_of_cell (e2.cell 0)
        rw [ho] at ho'
        cases ho'
        rw [hc] at hc'
        cases hc'))⟩) ?assign ?body ?done ?stop
  case assign =>
    intro l pre y W K hI hK
    have HI := hide hI
    have HK := hide hK
    have hz := hI.below.size
    have hz6 := hI.big
    clear hI hK
    gi_wp2
    refine HK.out _ _ ((KeepsOthers.alloc _ _).from _) (KeepsBut.grow (World.grownBy_alloc _ _ none)) (HI.out.grow (World.grownBy_alloc _ _ none) (fun r e => by cases e)) ⟨W.heap.size, hz6, rfl, Box.new _ _ _ _ rfl⟩
  case body =>
    rintro l pre y a' W hll hrec hI ⟨β, hβ, rfl, hY⟩ hlen
    have HI := hide hI
    have y3 := hY.cell 3
    have y4 := hY.cell 4
    have y5 := hY.cell 5
    have x3 := hI.svc.cell 3
    simp at y3 y4 y5 x3
    have hn2 : pre.length ≤ 1048576 := by omega
    obtain ⟨li, eli⟩ : ∃ z, z = ct lvQ pre := ⟨_, rfl⟩
    obtain ⟨re, ere⟩ : ∃ z, z = ct rdQ pre := ⟨_, rfl⟩
    obtain ⟨ol, eol⟩ : ∃ z, z = ct (olQ x.im) pre := ⟨_, rfl⟩
    obtain ⟨fa, efa⟩ : ∃ z, z = ct faQ pre := ⟨_, rfl⟩
    obtain ⟨en, een⟩ : ∃ z, z = ct enQ pre := ⟨_, rfl⟩
    have HCB : Hid (Box W (w.heap.size + 1 + 1 + 1) #[.int .i64 li, .int .i64 re, .int .i64 ol, .int .i64 fa, .int .i64 en]) := by
      unfold Hid
      rw [eli, ere, eol, efa, een]
      exact hI.cnt
    have b0 : 0 ≤ li ∧ li ≤ 1048576 := by have := ct_bd lvQ pre; omega
    have b1 : 0 ≤ re ∧ re ≤ 1048576 := by have := ct_bd rdQ pre; omega
    have b2 : 0 ≤ ol ∧ ol ≤ 1048576 := by have := ct_bd (olQ x.im) pre; omega
    have b3 : 0 ≤ fa ∧ fa ≤ 1048576 := by have := ct_bd faQ pre; omega
    have b4 : 0 ≤ en ∧ en ≤ 1048576 := by have := ct_bd enQ pre; omega
    have v0 : IntKind.i64.wrap (li + 1) = li + 1 := by rw [IntWalk.i64_left]; unfold wrap64; omega
    have v1 : IntKind.i64.wrap (re + 1) = re + 1 := by rw [IntWalk.i64_left]; unfold wrap64; omega
    have v2 : IntKind.i64.wrap (ol + 1) = ol + 1 := by rw [IntWalk.i64_left]; unfold wrap64; omega
    have v3 : IntKind.i64.wrap (fa + 1) = fa + 1 := by rw [IntWalk.i64_left]; unfold wrap64; omega
    have v4 : IntKind.i64.wrap (en + 1) = en + 1 := by rw [IntWalk.i64_left]; unfold wrap64; omega
    have HCN : Hid (∀ y : Cp, cnt5 x.im (pre ++ [y]) = #[.int .i64 (li + if lvQ y then 1 else 0), .int .i64 (re + if rdQ y then 1 else 0), .int .i64 (ol + if olQ x.im y then 1 else 0), .int .i64 (fa + if faQ y then 1 else 0), .int .i64 (en + if enQ y then 1 else 0)]) := fun y => by
      unfold cnt5
      rw [ct_snoc, ct_snoc, ct_snoc, ct_snoc, ct_snoc, eli, ere, eol, efa, een]
    have m0 := HCB.out.cell 0
    have m1 := HCB.out.cell 1
    have m2 := HCB.out.cell 2
    have m3 := HCB.out.cell 3
    have m4 := HCB.out.cell 4
    have f0 := HCB.out.free
    simp at m0 m1 m2 m3 m4
    clear eli ere eol efa een b0 b1 b2 b3 b4
    have HS : Hid (∀ W', Box W' (w.heap.size + 1 + 1 + 1) (cnt5 x.im (pre ++ [y])) → Below w.heap.size w W' → w.heap.size + 6 ≤ W'.heap.size → (∀ b, b ≠ w.heap.size + 1 + 1 + 1 → W'.heap[b]? = W.heap[b]?) → CntW w x (pre ++ [y]) W') := fun W' h1 h2 hbg h3 =>
      ⟨HI.out.svc.ofBlk (h3 _ (by omega)), HI.out.res.ofBlk (h3 _ (by omega)), h1, h2, hbg⟩
    clear hI hY hrec hn2 hlen
    cases q5 : y.en with
    | true =>
      have HE : Hid (cnt5 x.im (pre ++ [y]) = #[.int .i64 (li), .int .i64 (re), .int .i64 (ol), .int .i64 (fa), .int .i64 (en + 1)]) := by
        unfold Hid
        rw [HCN.out]
        simp [lvQ, rdQ, olQ, faQ, enQ, q5]
      gi_wp2
      have hst : Sets (w.heap.size + 1 + 1 + 1) W (W.setCell ⟨w.heap.size + 1 + 1 + 1, 4, none⟩ (.int .i64 (en + 1))) := (Sets.refl _ _).set _ _
      have hbx : Box (W.setCell ⟨w.heap.size + 1 + 1 + 1, 4, none⟩ (.int .i64 (en + 1))) (w.heap.size + 1 + 1 + 1) #[.int .i64 (li), .int .i64 (re), .int .i64 (ol), .int .i64 (fa), .int .i64 (en + 1)] := (HCB.out.set (k := 4) (.int .i64 (en + 1)) (by simp))
      generalize (W.setCell ⟨w.heap.size + 1 + 1 + 1, 4, none⟩ (.int .i64 (en + 1))) = W' at *
      exact ⟨hst.ko.from _, hst.kb _ _ rfl, HS.out W' (by rw [HE.out]; exact hbx) (HI.out.below.trans (hst.bl _ (by omega))) (by have := HI.out.big; have := hst.sz; omega) hst.oth⟩
    | false =>
      cases q3 : (y.st == 3) with
      | true =>
        have q4 : (y.st == 4) = false := by have := beq_iff_eq.1 q3; rw [this]; rfl
        cases q6 : (y.im != x.im) with
        | true =>
          have HE : Hid (cnt5 x.im (pre ++ [y]) = #[.int .i64 (li + 1), .int .i64 (re + 1), .int .i64 (ol + 1), .int .i64 (fa), .int .i64 (en)]) := by
            unfold Hid
            rw [HCN.out]
            simp [lvQ, rdQ, olQ, faQ, enQ, q5, q3, q4, q6]
          gi_wp2
          have hst : Sets (w.heap.size + 1 + 1 + 1) W (((W.setCell ⟨w.heap.size + 1 + 1 + 1, 0, none⟩ (.int .i64 (li + 1))).setCell ⟨w.heap.size + 1 + 1 + 1, 1, none⟩ (.int .i64 (re + 1))).setCell ⟨w.heap.size + 1 + 1 + 1, 2, none⟩ (.int .i64 (ol + 1))) := (((Sets.refl _ _).set _ _).set _ _).set _ _
          have hbx : Box (((W.setCell ⟨w.heap.size + 1 + 1 + 1, 0, none⟩ (.int .i64 (li + 1))).setCell ⟨w.heap.size + 1 + 1 + 1, 1, none⟩ (.int .i64 (re + 1))).setCell ⟨w.heap.size + 1 + 1 + 1, 2, none⟩ (.int .i64 (ol + 1))) (w.heap.size + 1 + 1 + 1) #[.int .i64 (li + 1), .int .i64 (re + 1), .int .i64 (ol + 1), .int .i64 (fa), .int .i64 (en)] := (((HCB.out.set (k := 0) (.int .i64 (li + 1)) (by simp)).set (k := 1) (.int .i64 (re + 1)) (by simp)).set (k := 2) (.int .i64 (ol + 1)) (by simp))
          generalize (((W.setCell ⟨w.heap.size + 1 + 1 + 1, 0, none⟩ (.int .i64 (li + 1))).setCell ⟨w.heap.size + 1 + 1 + 1, 1, none⟩ (.int .i64 (re + 1))).setCell ⟨w.heap.size + 1 + 1 + 1, 2, none⟩ (.int .i64 (ol + 1))) = W' at *
          exact ⟨hst.ko.from _, hst.kb _ _ rfl, HS.out W' (by rw [HE.out]; exact hbx) (HI.out.below.trans (hst.bl _ (by omega))) (by have := HI.out.big; have := hst.sz; omega) hst.oth⟩
        | false =>
          have HE : Hid (cnt5 x.im (pre ++ [y]) = #[.int .i64 (li + 1), .int .i64 (re + 1), .int .i64 (ol), .int .i64 (fa), .int .i64 (en)]) := by
            unfold Hid
            rw [HCN.out]
            simp [lvQ, rdQ, olQ, faQ, enQ, q5, q3, q4, q6]
          gi_wp2
          have hst : Sets (w.heap.size + 1 + 1 + 1) W ((W.setCell ⟨w.heap.size + 1 + 1 + 1, 0, none⟩ (.int .i64 (li + 1))).setCell ⟨w.heap.size + 1 + 1 + 1, 1, none⟩ (.int .i64 (re + 1))) := ((Sets.refl _ _).set _ _).set _ _
          have hbx : Box ((W.setCell ⟨w.heap.size + 1 + 1 + 1, 0, none⟩ (.int .i64 (li + 1))).setCell ⟨w.heap.size + 1 + 1 + 1, 1, none⟩ (.int .i64 (re + 1))) (w.heap.size + 1 + 1 + 1) #[.int .i64 (li + 1), .int .i64 (re + 1), .int .i64 (ol), .int .i64 (fa), .int .i64 (en)] := ((HCB.out.set (k := 0) (.int .i64 (li + 1)) (by simp)).set (k := 1) (.int .i64 (re + 1)) (by simp))
          generalize ((W.setCell ⟨w.heap.size + 1 + 1 + 1, 0, none⟩ (.int .i64 (li + 1))).setCell ⟨w.heap.size + 1 + 1 + 1, 1, none⟩ (.int .i64 (re + 1))) = W' at *
          exact ⟨hst.ko.from _, hst.kb _ _ rfl, HS.out W' (by rw [HE.out]; exact hbx) (HI.out.below.trans (hst.bl _ (by omega))) (by have := HI.out.big; have := hst.sz; omega) hst.oth⟩
      | false =>
        cases q4 : (y.st == 4) with
        | true =>
          cases q6 : (y.im != x.im) with
          | true =>
            have HE : Hid (cnt5 x.im (pre ++ [y]) = #[.int .i64 (li + 1), .int .i64 (re), .int .i64 (ol + 1), .int .i64 (fa + 1), .int .i64 (en)]) := by
              unfold Hid
              rw [HCN.out]
              simp [lvQ, rdQ, olQ, faQ, enQ, q5, q3, q4, q6]
            gi_wp2
            have hst : Sets (w.heap.size + 1 + 1 + 1) W (((W.setCell ⟨w.heap.size + 1 + 1 + 1, 0, none⟩ (.int .i64 (li + 1))).setCell ⟨w.heap.size + 1 + 1 + 1, 3, none⟩ (.int .i64 (fa + 1))).setCell ⟨w.heap.size + 1 + 1 + 1, 2, none⟩ (.int .i64 (ol + 1))) := (((Sets.refl _ _).set _ _).set _ _).set _ _
            have hbx : Box (((W.setCell ⟨w.heap.size + 1 + 1 + 1, 0, none⟩ (.int .i64 (li + 1))).setCell ⟨w.heap.size + 1 + 1 + 1, 3, none⟩ (.int .i64 (fa + 1))).setCell ⟨w.heap.size + 1 + 1 + 1, 2, none⟩ (.int .i64 (ol + 1))) (w.heap.size + 1 + 1 + 1) #[.int .i64 (li + 1), .int .i64 (re), .int .i64 (ol + 1), .int .i64 (fa + 1), .int .i64 (en)] := (((HCB.out.set (k := 0) (.int .i64 (li + 1)) (by simp)).set (k := 3) (.int .i64 (fa + 1)) (by simp)).set (k := 2) (.int .i64 (ol + 1)) (by simp))
            generalize (((W.setCell ⟨w.heap.size + 1 + 1 + 1, 0, none⟩ (.int .i64 (li + 1))).setCell ⟨w.heap.size + 1 + 1 + 1, 3, none⟩ (.int .i64 (fa + 1))).setCell ⟨w.heap.size + 1 + 1 + 1, 2, none⟩ (.int .i64 (ol + 1))) = W' at *
            exact ⟨hst.ko.from _, hst.kb _ _ rfl, HS.out W' (by rw [HE.out]; exact hbx) (HI.out.below.trans (hst.bl _ (by omega))) (by have := HI.out.big; have := hst.sz; omega) hst.oth⟩
          | false =>
            have HE : Hid (cnt5 x.im (pre ++ [y]) = #[.int .i64 (li + 1), .int .i64 (re), .int .i64 (ol), .int .i64 (fa + 1), .int .i64 (en)]) := by
              unfold Hid
              rw [HCN.out]
              simp [lvQ, rdQ, olQ, faQ, enQ, q5, q3, q4, q6]
            gi_wp2
            have hst : Sets (w.heap.size + 1 + 1 + 1) W ((W.setCell ⟨w.heap.size + 1 + 1 + 1, 0, none⟩ (.int .i64 (li + 1))).setCell ⟨w.heap.size + 1 + 1 + 1, 3, none⟩ (.int .i64 (fa + 1))) := ((Sets.refl _ _).set _ _).set _ _
            have hbx : Box ((W.setCell ⟨w.heap.size + 1 + 1 + 1, 0, none⟩ (.int .i64 (li + 1))).setCell ⟨w.heap.size + 1 + 1 + 1, 3, none⟩ (.int .i64 (fa + 1))) (w.heap.size + 1 + 1 + 1) #[.int .i64 (li + 1), .int .i64 (re), .int .i64 (ol), .int .i64 (fa + 1), .int .i64 (en)] := ((HCB.out.set (k := 0) (.int .i64 (li + 1)) (by simp)).set (k := 3) (.int .i64 (fa + 1)) (by simp))
            generalize ((W.setCell ⟨w.heap.size + 1 + 1 + 1, 0, none⟩ (.int .i64 (li + 1))).setCell ⟨w.heap.size + 1 + 1 + 1, 3, none⟩ (.int .i64 (fa + 1))) = W' at *
            exact ⟨hst.ko.from _, hst.kb _ _ rfl, HS.out W' (by rw [HE.out]; exact hbx) (HI.out.below.trans (hst.bl _ (by omega))) (by have := HI.out.big; have := hst.sz; omega) hst.oth⟩
        | false =>
          cases q6 : (y.im != x.im) with
          | true =>
            have HE : Hid (cnt5 x.im (pre ++ [y]) = #[.int .i64 (li + 1), .int .i64 (re), .int .i64 (ol + 1), .int .i64 (fa), .int .i64 (en)]) := by
              unfold Hid
              rw [HCN.out]
              simp [lvQ, rdQ, olQ, faQ, enQ, q5, q3, q4, q6]
            gi_wp2
            have hst : Sets (w.heap.size + 1 + 1 + 1) W ((W.setCell ⟨w.heap.size + 1 + 1 + 1, 0, none⟩ (.int .i64 (li + 1))).setCell ⟨w.heap.size + 1 + 1 + 1, 2, none⟩ (.int .i64 (ol + 1))) := ((Sets.refl _ _).set _ _).set _ _
            have hbx : Box ((W.setCell ⟨w.heap.size + 1 + 1 + 1, 0, none⟩ (.int .i64 (li + 1))).setCell ⟨w.heap.size + 1 + 1 + 1, 2, none⟩ (.int .i64 (ol + 1))) (w.heap.size + 1 + 1 + 1) #[.int .i64 (li + 1), .int .i64 (re), .int .i64 (ol + 1), .int .i64 (fa), .int .i64 (en)] := ((HCB.out.set (k := 0) (.int .i64 (li + 1)) (by simp)).set (k := 2) (.int .i64 (ol + 1)) (by simp))
            generalize ((W.setCell ⟨w.heap.size + 1 + 1 + 1, 0, none⟩ (.int .i64 (li + 1))).setCell ⟨w.heap.size + 1 + 1 + 1, 2, none⟩ (.int .i64 (ol + 1))) = W' at *
            exact ⟨hst.ko.from _, hst.kb _ _ rfl, HS.out W' (by rw [HE.out]; exact hbx) (HI.out.below.trans (hst.bl _ (by omega))) (by have := HI.out.big; have := hst.sz; omega) hst.oth⟩
          | false =>
            have HE : Hid (cnt5 x.im (pre ++ [y]) = #[.int .i64 (li + 1), .int .i64 (re), .int .i64 (ol), .int .i64 (fa), .int .i64 (en)]) := by
              unfold Hid
              rw [HCN.out]
              simp [lvQ, rdQ, olQ, faQ, enQ, q5, q3, q4, q6]
            gi_wp2
            have hst : Sets (w.heap.size + 1 + 1 + 1) W (W.setCell ⟨w.heap.size + 1 + 1 + 1, 0, none⟩ (.int .i64 (li + 1))) := (Sets.refl _ _).set _ _
            have hbx : Box (W.setCell ⟨w.heap.size + 1 + 1 + 1, 0, none⟩ (.int .i64 (li + 1))) (w.heap.size + 1 + 1 + 1) #[.int .i64 (li + 1), .int .i64 (re), .int .i64 (ol), .int .i64 (fa), .int .i64 (en)] := (HCB.out.set (k := 0) (.int .i64 (li + 1)) (by simp))
            generalize (W.setCell ⟨w.heap.size + 1 + 1 + 1, 0, none⟩ (.int .i64 (li + 1))) = W' at *
            exact ⟨hst.ko.from _, hst.kb _ _ rfl, HS.out W' (by rw [HE.out]; exact hbx) (HI.out.below.trans (hst.bl _ (by omega))) (by have := HI.out.big; have := hst.sz; omega) hst.oth⟩
  case done =>
    rintro Dd ys W hD rfl hI hK
    have HI := hide hI
    have HRES := hide (ctL_filter L x.nm x.im)
    have m0 := hI.cnt.cell
    have r0 := hI.res.cell
    have g0 := hI.res.free
    clear hI
    gi_wp2
    have hst : Sets (w.heap.size + 1 + 1) W (((((W.setCell ⟨w.heap.size + 1 + 1, 0, none⟩ (.int .i64 (ct lvQ (L.filter (mineB x.nm))))).setCell ⟨w.heap.size + 1 + 1, 1, none⟩ (.int .i64 (ct rdQ (L.filter (mineB x.nm))))).setCell ⟨w.heap.size + 1 + 1, 2, none⟩ (.int .i64 (ct (olQ x.im) (L.filter (mineB x.nm))))).setCell ⟨w.heap.size + 1 + 1, 3, none⟩ (.int .i64 (ct faQ (L.filter (mineB x.nm))))).setCell ⟨w.heap.size + 1 + 1, 4, none⟩ (.int .i64 (ct enQ (L.filter (mineB x.nm))))) := (((((Sets.refl _ _).set _ _).set _ _).set _ _).set _ _).set _ _
    have hbx : Box (((((W.setCell ⟨w.heap.size + 1 + 1, 0, none⟩ (.int .i64 (ct lvQ (L.filter (mineB x.nm))))).setCell ⟨w.heap.size + 1 + 1, 1, none⟩ (.int .i64 (ct rdQ (L.filter (mineB x.nm))))).setCell ⟨w.heap.size + 1 + 1, 2, none⟩ (.int .i64 (ct (olQ x.im) (L.filter (mineB x.nm))))).setCell ⟨w.heap.size + 1 + 1, 3, none⟩ (.int .i64 (ct faQ (L.filter (mineB x.nm))))).setCell ⟨w.heap.size + 1 + 1, 4, none⟩ (.int .i64 (ct enQ (L.filter (mineB x.nm))))) (w.heap.size + 1 + 1) #[.int .i64 (ct lvQ (L.filter (mineB x.nm))), .int .i64 (ct rdQ (L.filter (mineB x.nm))), .int .i64 (ct (olQ x.im) (L.filter (mineB x.nm))), .int .i64 (ct faQ (L.filter (mineB x.nm))), .int .i64 (ct enQ (L.filter (mineB x.nm)))] := (((((HI.out.res.set (k := 0) (.int .i64 (ct lvQ (L.filter (mineB x.nm)))) (by simp)).set (k := 1) (.int .i64 (ct rdQ (L.filter (mineB x.nm)))) (by simp)).set (k := 2) (.int .i64 (ct (olQ x.im) (L.filter (mineB x.nm)))) (by simp)).set (k := 3) (.int .i64 (ct faQ (L.filter (mineB x.nm)))) (by simp)).set (k := 4) (.int .i64 (ct enQ (L.filter (mineB x.nm)))) (by simp))
    generalize (((((W.setCell ⟨w.heap.size + 1 + 1, 0, none⟩ (.int .i64 (ct lvQ (L.filter (mineB x.nm))))).setCell ⟨w.heap.size + 1 + 1, 1, none⟩ (.int .i64 (ct rdQ (L.filter (mineB x.nm))))).setCell ⟨w.heap.size + 1 + 1, 2, none⟩ (.int .i64 (ct (olQ x.im) (L.filter (mineB x.nm))))).setCell ⟨w.heap.size + 1 + 1, 3, none⟩ (.int .i64 (ct faQ (L.filter (mineB x.nm))))).setCell ⟨w.heap.size + 1 + 1, 4, none⟩ (.int .i64 (ct enQ (L.filter (mineB x.nm))))) = W2 at *
    have hDd : w.heap.size + 6 ≤ Dd := by omega
    have hK2 : W2.heap[Dd]? = some (.deferred (some [])) := (hst.oth Dd (by omega)).trans hK
    have HB2 : Below w.heap.size w W2 := HI.out.below.trans (hst.bl _ (by omega))
    refine ⟨by simp, .inl ⟨_, _, rfl, run_takeDeferred hK2, ?_⟩⟩
    have r2 : ∀ i, (W2.putObj Dd (.deferred none)).cell? ⟨w.heap.size + 1 + 1, i, none⟩ = (#[.int .i64 (ct lvQ (L.filter (mineB x.nm))), .int .i64 (ct rdQ (L.filter (mineB x.nm))), .int .i64 (ct (olQ x.im) (L.filter (mineB x.nm))), .int .i64 (ct faQ (L.filter (mineB x.nm))), .int .i64 (ct enQ (L.filter (mineB x.nm)))] : Array Value)[i]? := fun i =>
      (World.cell?_of_block (a := ⟨w.heap.size + 1 + 1, i, none⟩) ((grownBy_putObj' W2 Dd _).block _ hbx.lt (fun e => by have := Option.some.inj e; (try simp only [] at this); omega))).trans (hbx.cell i)
    clear m0 r0 g0 hst
    refine ⟨.agg #[.int .i64 (ct lvQ (L.filter (mineB x.nm))), .int .i64 (ct rdQ (L.filter (mineB x.nm))), .int .i64 (ct (olQ x.im) (L.filter (mineB x.nm))), .int .i64 (ct faQ (L.filter (mineB x.nm))), .int .i64 (ct enQ (L.filter (mineB x.nm)))], by simp [results, Tryz.results72, go_sem, r2], ⟨ct lvQ (L.filter (mineB x.nm)), ct rdQ (L.filter (mineB x.nm)), ct (olQ x.im) (L.filter (mineB x.nm)), ct faQ (L.filter (mineB x.nm)), ct enQ (L.filter (mineB x.nm))⟩, rfl, HRES.out.symm, HB2.trans (belowK_b (w := w) (Nat.le_refl _) W2 Dd _ _ (by omega) hK2 rfl rfl)⟩
  case stop =>
    rintro Dd c pre W hD hSp hF
    exact hF.elim
end
end Go.Proofs.YtpdlcccnlciecaaGreat
