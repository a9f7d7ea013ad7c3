import Derived.Test.YthfdfdlojfdckaaGreatVJ3
import Derived.Test.YthfdfdlojfdckaaGreatVJA
import Derived.Test.YthfdfdlojfdckaaGreatVGG
import Derived.Test.YthfdfdlojfdckaaGreatVEE
import Derived.Test.YthfdfdlojfdckaaGreatVNZ
import Derived.Test.YthfdfdlojfdckaaGreatVH7
import Derived.Test.YthfdfdlojfdckaaGreatVBOG
import Derived.Test.YthfdfdlojfdckaaGreatVB1
import Derived.Test.YthfdfdlojfdckaaGreatVG3c
import Derived.Test.YthfdfdlojfdckaaGreatVA1
import Derived.Test.YthfdfdlojfdckaaGreatVLA
import Derived.Test.YthfdfdlojfdckaaGreatVDA
import Derived.Test.YthfdfdlojfdckaaGreatVMM
import Derived.Test.YthfdfdlojfdckaaGreatVTA
import Derived.Test.YthfdfdlojfdckaaGreatVP1
import Derived.Test.YthfdfdlojfdckaaGreatVTB
import Derived.Test.YthfdfdlojfdckaaGreatVBBL
import Derived.Test.YthfdfdlojfdckaaGreatVHA
namespace Go.Proofs.YthfdfdlojfdckaaGreat
open Go.RowKit Go.Deep Go.Shelf Go.Maps

attribute [local go_sem] Oper.semAt_some

/-- is all there that an object names? -/
def tiedOne (Os : List Ob) (t : Tie) : Bool := Os.any (obIs t.2.2.1 t.2.2.2)
def tiedB (Os : List Ob) (Fs : List Fd) (V : List ByteArray) : Bool := (ties Fs V Fs.length).all (tiedOne Os)
theorem ties_grow (Fs : List Fd) (V : List ByteArray) (k d : Nat) : ∃ R, ties Fs V (k + d) = ties Fs V k ++ R := by
  induction d with
  | zero => exact ⟨[], by simp⟩
  | succ d ih =>
    obtain ⟨R, hR⟩ := ih
    rw [← Nat.add_assoc, ties, hR, List.append_assoc]
    exact ⟨_, rfl⟩
theorem tied_no {Os : List Ob} {Fs : List Fd} {V : List ByteArray} {k : Nat} (hk : k ≤ Fs.length) (h : (ties Fs V k).all (tiedOne Os) = false) : tiedB Os Fs V = false := by
  obtain ⟨R, hR⟩ := ties_grow Fs V k (Fs.length - k)
  rw [show k + (Fs.length - k) = Fs.length by omega] at hR
  unfold tiedB
  rw [hR, List.all_append, h, Bool.false_and]
/-- a tie as it is handed on -/
def tieC (x : Tie) : Tie := (x.1, x.2.1, cutS x.2.2.1, cutS x.2.2.2)
theorem tieOne_size {lo : Nat} {w : World} {fv vv : Value} {Fs : List Fd} {V : List ByteArray} (hF : FdsAt lo w fv Fs) (hV : StrsAt w vv V) : ∀ (k : Nat), ∀ t ∈ ties Fs V k, tieC t = t := by
  intro k
  induction k with
  | zero => intro t ht; simp [ties] at ht
  | succ k ih =>
    intro t ht
    rw [ties] at ht
    rcases List.mem_append.1 ht with ht | ht
    · exact ih t ht
    · split at ht
      · rename_i f s hf hs
        unfold tieOne at ht
        split at ht
        · simp at ht
          subst ht
          have h1 : f.to.size ≤ maxLen := by
            obtain ⟨hk, rfl⟩ := List.getElem?_eq_some_iff.1 hf
            rcases hF with ⟨_, _, _, e0⟩ | ⟨b', off', cap', g1, g2, g3, g4, g5, g7⟩
            · simp [e0] at hk
            · exact (g7.2 k hk).1.s5
          have h2 : s.size ≤ maxLen := by
            have hm := List.mem_of_getElem? hs
            rcases hV with ⟨_, _, _, e0⟩ | ⟨b', off', cap', g1, g2, g3, g4, g5, g6⟩
            · rw [e0] at hm; cases hm
            · exact g6 s hm
          unfold tieC
          dsimp only
          rw [cutS_ok h1, cutS_ok h2]
        · simp at ht
      · simp at ht
theorem ties_cut {lo : Nat} {w : World} {fv vv : Value} {Fs : List Fd} {V : List ByteArray} (hF : FdsAt lo w fv Fs) (hV : StrsAt w vv V) (Os : List Ob) (k : Nat) : (ties Fs V k).all (fun t => tiedOne Os (tieC t)) = (ties Fs V k).all (tiedOne Os) := by
  rw [Bool.eq_iff_iff, List.all_eq_true, List.all_eq_true]
  exact ⟨fun h t ht => by rw [← tieOne_size hF hV k t ht]; exact h t ht, fun h t ht => by rw [tieOne_size hF hV k t ht]; exact h t ht⟩

theorem KeepsBut.grow {S : Nat → Prop} {B : Nat} {W W' : World} (h : W.grownBy W' none) : KeepsBut S B W W' :=
  ⟨h.os, h.tape, h.output, h.size, fun k o hk _ _ => (h.block k (Array.getElem?_eq_some_iff.1 hk).1 (by simp)).trans hk⟩
/-- the world while ties are looked up -/
structure TieW (w : World) (pb n : Nat) (D : DataW Unit) (W : World) : Prop where
  own : W.ownsMap Tryz.prog 255 (plainElem Tryz.prog 3) pb n D
  ptr : Box W (w.heap.size + 1 + 1) #[.map (some pb)]
  res : Box W (w.heap.size + 1 + 1 + 1) #[.bool false]
  below : Below w.heap.size w W
theorem TieW.grow {w : World} {pb n : Nat} {D : DataW Unit} {W W' : World} {row : Option Nat} (h : TieW w pb n D W) (hpb : pb < w.heap.size) (hg : W.grownBy W' row) (hr : ∀ r, row = some r → w.heap.size + 6 ≤ r) : TieW w pb n D W' :=
  ⟨h.own.kept hg (fun e => by have := hr _ e.symm; omega), h.ptr.of_block (hg.block _ h.ptr.lt (fun e => by have := hr _ e.symm; omega)), h.res.of_block (hg.block _ h.res.lt (fun e => by have := hr _ e.symm; omega)),
    h.below.trans ⟨hg.os, hg.tape, hg.output, hg.size, fun k hk => hg.block k (by have := h.below.size; omega) (fun e => by have := hr _ e.symm; omega)⟩⟩

section
variable (lo : Nat) (sk : ByteArray) (fv : Value) (Fs : List Fd) (kind nm team : ByteArray) (vv hv : Value) (en : Bool) (ver : Int) (V Ho : List ByteArray) (Os : List Ob) (w : World)

set_option maxRecDepth 100000 in
set_option maxHeartbeats 4000000 in
theorem tied_any {D : DataW Unit} {pb n : Nat} (hF : FdsAt lo w fv Fs) (hV : StrsAt w vv V) (hH : StrsAt w hv Ho) (hl : Fs.length = V.length) (n1 : V.length ≤ 1048576) (hown : w.ownsMap Tryz.prog 255 (plainElem Tryz.prog 3) pb n D) (hp : PlOk Os D) :
    Calls Tryz.prog 150 #[.agg #[.string sk, fv], .agg #[.string kind, .string nm, .string team, vv, .bool en, hv, .int .i64 ver], .map (some pb)] w
      fun e w' => e = .returned (.bool (tiedB Os Fs V)) ∧ Below w.heap.size w w' := by
  have HF := hide hF
  have HV := hide hV
  have HO := hide hown
  have HP := hide hp
  have HL := hide hl
  have HN : Hid (Fs.length ≤ 1048576) := by unfold Hid; omega
  have hpb : pb < w.heap.size := hown.lt
  have HCUT := hide (ties_cut hF hV Os)
  obtain ⟨fa, fcap, rfl⟩ := hF.form
  obtain ⟨va, vcap, rfl⟩ := hV.form'
  obtain ⟨ha, hcap, rfl⟩ := hH.form'
  clear hF hV hH hown hp hl n1
  refine (callsIn_wide (n := 5)).1 ?_
  refine callsIn_of_wp_marks Tryz.func150 rfl trivial ?_ rfl
  simp only [Tryz.ntmps150, List.size_toArray, List.length_cons, List.length_nil, Nat.reduceAdd, Nat.reduceSub, Array.replicate_succ, Array.replicate_zero, List.push_toArray, List.append_toArray, List.nil_append, List.cons_append]
  gi_wp2_with fail
  refine ⟨trivial, (ties_in sk kind nm team en ver _ Fence.wide _ trivial rfl fa Fs.length fcap va V.length vcap ha Ho.length hcap).mono ?_⟩
  rintro e w1 ⟨rfl, hw1⟩
  obtain ⟨wl, hwl, HX1, HX2, HT, hsz⟩ : ∃ wl, wl = w1 ∧
      Hid (Box wl (w.heap.size + 1 + 1 + 1 + 1) #[.string sk, .slice fa Fs.length fcap]) ∧ Hid (Box wl (w.heap.size + 1 + 1 + 1 + 1 + 1) #[.string kind, .string nm, .string team, .slice va V.length vcap, .bool en, .slice ha Ho.length hcap, .int .i64 ver]) ∧
      Hid (TieW w pb n D wl) ∧ wl.heap.size = w.heap.size + 6 := by
    subst hw1
    refine ⟨_, rfl, (Box.new _ _ _ _ (by simp)).on (one_al _ _), Box.new _ _ _ _ (by simp), ⟨?_, ?_, ?_, ?_⟩, by simp⟩
    · exact (((((HO.out.alloc _).alloc _).alloc _).alloc _).alloc _).alloc _
    · exact (((Box.new _ _ _ _ (by simp)).on (one_al _ _)).on (one_al _ _)).on (one_al _ _)
    · exact ((Box.new _ _ _ _ (by simp)).on (one_al _ _)).on (one_al _ _)
    · exact (((((one_al _ _).trans ((one_al _ _).mono (by simp))).trans ((one_al _ _).mono (by simp; omega))).trans ((one_al _ _).mono (by simp; omega))).trans ((one_al _ _).mono (by simp; omega))).trans ((one_al _ _).mono (by simp; omega))
  subst hwl
  clear hw1
  gi_wp2_with fail
  refine wpIn_rangeFunc_ownH rfl (by decide) (gf := 212) (lb := #[.pointer (some ⟨w.heap.size + 1 + 1 + 1 + 1, 0, none⟩), .pointer (some ⟨w.heap.size + 1 + 1 + 1 + 1 + 1, 0, none⟩)]) rfl trivial (enters_of Tryz.func212 (by kernel_rfl) rfl)
    (ties_stops lo sk _ Fs kind nm team _ _ en ver V wl _ (by decide) (fun _ => False) w _ _ HT.out.below HF.out HV.out HL.out HN.out (fun _ _ h => h) (fun h => h) HX1.out HX2.out)
    KeepsBut.trans KeepsBut.put (Below.refl _ _) (fun _ => rfl)
    (fun pre W => TieW w pb n D W ∧ pre.all (fun t => tiedOne Os (tieC t)) = true)
    (fun c pre W => c = .ret ∧ (W.cell? ⟨w.heap.size + 1 + 1 + 1, 0, none⟩ = some (.bool false) ∧ w.heap.size ≤ W.heap.size ∧ Below w.heap.size w W) ∧ pre.all (fun t => tiedOne Os (tieC t)) = false)
    (fun s A B row hs hg hr => ⟨hs.1.grow hpb hg (fun r e => by have := (hr r e).1; omega), hs.2⟩)
    (fun c s A B row hs hg hr => ⟨hs.1, ⟨cell_kept hs.2.1.1 hg (fun r e => (hr r e).2), Nat.le_trans hs.2.1.2.1 hg.size, hs.2.1.2.2.trans ⟨hg.os, hg.tape, hg.output, hg.size, fun k hk => hg.block k (by have := hs.2.1.2.1; omega) (fun e => by have := (hr _ e.symm).1; omega)⟩⟩, hs.2.2⟩)
    ⟨HT.out, rfl⟩
    (fun x a' W => ∃ β : Nat, a' = { tmps := #[.agg #[.string sk, .slice fa Fs.length fcap], .agg #[.string kind, .string nm, .string team, .slice va V.length vcap, .bool en, .slice ha Ho.length hcap, .int .i64 ver], .map (some pb), .pointer (some ⟨w.heap.size, 0, none⟩), .pointer (some ⟨w.heap.size + 1, 0, none⟩), .pointer (some ⟨w.heap.size + 1 + 1, 0, none⟩), .pointer (some ⟨w.heap.size + 1 + 1 + 1, 0, none⟩), .pointer (some ⟨β, 0, none⟩), undef, undef, .agg #[.string sk, .slice fa Fs.length fcap], .agg #[.string kind, .string nm, .string team, .slice va V.length vcap, .bool en, .slice ha Ho.length hcap, .int .i64 ver], .func (.func 212) #[] #[.pointer (some ⟨w.heap.size + 1 + 1 + 1 + 1, 0, none⟩), .pointer (some ⟨w.heap.size + 1 + 1 + 1 + 1 + 1, 0, none⟩)], .agg #[.int .i64 x.1, .int .i64 x.2.1, .string (cutS x.2.2.1), .string (cutS x.2.2.2)], undef, undef, undef, undef, undef, undef, undef, undef, undef], defers := [] } ∧ W.cell? ⟨β, 2, none⟩ = some (.string (cutS x.2.2.1)) ∧ W.cell? ⟨β, 3, none⟩ = some (.string (cutS x.2.2.2)))
    (fun x a' s A B row hs hg hr => by
      obtain ⟨β, e1, e2, e3⟩ := hs
      exact ⟨β, e1, cell_kept e2 hg (fun r e => (hr r e).2), cell_kept e3 hg (fun r e => (hr r e).2)⟩) ?assign ?body ?done ?stop
  case assign =>
    intro l pre x W K hI hK
    have HI := hide hI
    have HK := hide hK
    clear hI hK
    gi_wp2
    refine HK.out _ _ ((KeepsOthers.alloc _ _).from _) (KeepsBut.grow (World.grownBy_alloc _ _ none)) ⟨HI.out.1.grow hpb (World.grownBy_alloc _ _ none) (fun r e => by cases e), HI.out.2⟩ ⟨W.heap.size, rfl, new_cell _ _ _ _ 2 rfl, new_cell _ _ _ _ 3 rfl⟩
  case body =>
    rintro l pre x a' W hll hrec ⟨hTW, hall⟩ ⟨β, rfl, hc2, hc3⟩ hlen
    have HTW := hide hTW
    have HALL := hide hall
    obtain ⟨v, ps, hrun, hv⟩ := hTW.own.look_ok keyKeyed Tryz.underlying213 (accZero _) (plainElem_int Tryz.underlying3 (by decide)) (keyTwo.mk' (cutS_le x.2.2.1) (cutS_le x.2.2.2))
    obtain ⟨c, rfl, hc, hwc⟩ := plainElem_int_inv Tryz.underlying3 hv
    rw [HP.out.has _ _ (cutS_le _) (cutS_le _)] at hrun
    have HE : Hid (tiedOne Os (tieC x) = Os.any (obIs (cutS x.2.2.1) (cutS x.2.2.2))) := rfl
    have p0 := hTW.ptr.cell 0
    have r0 := hTW.res.cell 0
    have rf := hTW.res.free 0
    simp at p0 r0
    clear hv hc hwc hTW hall hrec
    cases hq : Os.any (obIs (cutS x.2.2.1) (cutS x.2.2.2)) with
    | true =>
      rw [hq] at hrun
      gi_wp2
      exact ⟨KeepsFrom.refl _ _, KeepsBut.refl _ _ _, HTW.out, by rw [List.all_append, HALL.out]; simp [HE.out, hq]⟩
    | false =>
      rw [hq] at hrun
      gi_wp2
      exact ⟨(KeepsOthers.setCell _ _ _).from _, rfl, ⟨World.cell?_setCell_same' _ _ _ (by rw [r0]; rfl), by have := HTW.out.below.size; simpa using this, HTW.out.below.setCell (p := ⟨w.heap.size + 1 + 1 + 1, 0, none⟩) (by simp only []; omega) _⟩, by rw [List.all_append, HALL.out]; simp [HE.out, hq]⟩
  case done =>
    rintro Dd ys W hD rfl ⟨hTW, hall⟩ hK
    have HTW := hide hTW
    have HRES : Hid (tiedB Os Fs V = true) := (HCUT.out Fs.length).symm.trans hall
    have r0 := hTW.res.cell 0
    have rf := hTW.res.free 0
    simp at r0
    clear hTW hall
    gi_wp2
    have g := grownBy_setCell' W (w.heap.size + 1 + 1 + 1) (.bool true)
    have hK2 : (W.setCell ⟨w.heap.size + 1 + 1 + 1, 0, none⟩ (.bool true)).heap[Dd]? = some (.deferred (some [])) := (g.block Dd (Array.getElem?_eq_some_iff.1 hK).1 (fun e => by have := Option.some.inj e; (try simp only [] at this); omega)).trans hK
    have c1 : (W.setCell ⟨w.heap.size + 1 + 1 + 1, 0, none⟩ (.bool true)).cell? ⟨w.heap.size + 1 + 1 + 1, 0, none⟩ = some (.bool true) := World.cell?_setCell_same' _ _ _ (by rw [r0]; rfl)
    have HB2 : Below w.heap.size w (W.setCell ⟨w.heap.size + 1 + 1 + 1, 0, none⟩ (.bool true)) := HTW.out.below.setCell (p := ⟨w.heap.size + 1 + 1 + 1, 0, none⟩) (by simp only []; omega) _
    generalize W.setCell ⟨w.heap.size + 1 + 1 + 1, 0, none⟩ (.bool true) = W2 at *
    refine ⟨by simp, .inl ⟨_, _, rfl, run_takeDeferred hK2, ?_⟩⟩
    have c2 : (W2.putObj Dd (.deferred none)).cell? ⟨w.heap.size + 1 + 1 + 1, 0, none⟩ = some (.bool true) := (World.cell?_of_block (a := ⟨w.heap.size + 1 + 1 + 1, 0, none⟩) ((grownBy_putObj' W2 Dd _).block _ (World.block_lt_of_cell? _ _ c1) (fun e => by have := Option.some.inj e; (try simp only [] at this); omega))).trans c1
    refine ⟨.bool true, by simp [results, Tryz.results150, go_sem, c2], by rw [HRES.out], HB2.trans (belowK_b (w := w) (Nat.le_refl _) W2 Dd _ _ (by omega) hK2 rfl rfl)⟩
  case stop =>
    rintro Dd c pre W hD ⟨k, hk, rfl⟩ ⟨rfl, ⟨c1, hz, hB⟩, hall⟩ hK
    have HB2 := hide hB
    have HRES : Hid (tiedB Os Fs V = false) := tied_no hk (by rw [← HCUT.out]; exact hall)
    clear hB hall
    gi_wp2
    refine ⟨by simp, .inl ⟨_, _, rfl, run_takeDeferred hK, ?_⟩⟩
    have c2 : (W.putObj Dd (.deferred none)).cell? ⟨w.heap.size + 1 + 1 + 1, 0, none⟩ = some (.bool false) := (World.cell?_of_block (a := ⟨w.heap.size + 1 + 1 + 1, 0, none⟩) ((grownBy_putObj' W Dd _).block _ (World.block_lt_of_cell? _ _ c1) (fun e => by have := Option.some.inj e; (try simp only [] at this); omega))).trans c1
    refine ⟨.bool false, by simp [results, Tryz.results150, go_sem, c2], by rw [HRES.out], HB2.out.trans (belowK_b (w := w) (Nat.le_refl _) W Dd _ _ (by omega) hK rfl rfl)⟩
end
end Go.Proofs.YthfdfdlojfdckaaGreat

namespace Go.Proofs.YthfdfdlojfdckaaGreat
open Go.RowKit Go.Deep Go.Maps

abbrev Held3 (W0 : World) (b1 : Nat) (cs1 : Array Value) (b2 : Nat) (cs2 : Array Value) (b3 : Nat) (cs3 : Array Value) (W : World) : Prop :=
  (∀ i, W.cell? ⟨b1, i, none⟩ = cs1[i]?) ∧ (∀ i, W.cell? ⟨b2, i, none⟩ = cs2[i]?) ∧ (∀ i, W.cell? ⟨b3, i, none⟩ = cs3[i]?) ∧ Hid (Below W0.heap.size W0 W ∧ b1 < W0.heap.size ∧ b2 < W0.heap.size ∧ b3 < W0.heap.size)
theorem Held3.drew {W0 : World} {b1 b2 b3 : Nat} {cs1 cs2 cs3 : Array Value} (h1 : Box W0 b1 cs1) (h2 : Box W0 b2 cs2) (h3 : Box W0 b3 cs3) : Held3 W0 b1 cs1 b2 cs2 b3 cs3 W0.drew := ⟨h1.cell, h2.cell, h3.cell, (Below.refl _ _).drew, h1.lt, h2.lt, h3.lt⟩
theorem Held3.on {W0 W W' : World} {b1 b2 b3 : Nat} {cs1 cs2 cs3 : Array Value} (h : Held3 W0 b1 cs1 b2 cs2 b3 cs3 W) (hb : Below W.heap.size W W') : Held3 W0 b1 cs1 b2 cs2 b3 cs3 W' := by
  obtain ⟨h1, h2, h3, h4, h5, h6, h7⟩ := h
  have := h4.size
  exact ⟨fun i => (hb.cell (p := ⟨b1, i, none⟩) (by simp only []; omega)).trans (h1 i), fun i => (hb.cell (p := ⟨b2, i, none⟩) (by simp only []; omega)).trans (h2 i), fun i => (hb.cell (p := ⟨b3, i, none⟩) (by simp only []; omega)).trans (h3 i), h4.trans (hb.mono h4.size), h5, h6, h7⟩
theorem field_values (k n t v e h r : Value) (W : World) : (Instr.field 135 (.agg #[k, n, t, v, e, h, r]) 3).run Tryz.prog W = .ok v W := by
  simp [Instr.field, go_sem, run_underlying Tryz.underlying135, Result.andThen, asAgg]
/-- what is asked of an object alone -/
def aloneB (Ts : List Tm) (Fs : List Fd) (o : Ob) (F : List ByteArray) : Bool := decide ((checkR Fs o.nm o.tm o.vs o.hs o.ver).1 = 0) && (hasT Ts o.tm && decide (F = o.vs))

section
variable (lo : Nat) (sv mv tv fv vv hv : Value) (Ss : List Sh) (Ms : List Md) (Ts : List Tm) (x : Sh) (o : Ob) (F : List ByteArray) (w : World)

set_option maxRecDepth 100000 in
set_option maxHeartbeats 8000000 in
theorem objectOk_any (hl : LawAt lo w sv mv tv Ss Ms Ts) (hmb : mendsB Ss Ms = true) (hx : shOf Ss o.kd = some x) (hF : FdsAt lo w fv x.fields) (hV : StrsAt w vv o.vs) (hH : StrsAt w hv o.hs) (hz : ObSize o) (n2 : o.hs.length ≤ 1048576) (hsh : ShapeTo Ss Ms o.kd o.vs F) :
    Calls Tryz.prog 149 #[.agg #[sv, mv, tv], .agg #[.string x.kind, fv], .agg #[.string o.kd, .string o.nm, .string o.tm, vv, .bool o.en, hv, .int .i64 o.ver]] w
      fun e w' => e = .returned (.bool (aloneB Ts x.fields o F)) ∧ Below w.heap.size w w' := by
  have HL := hide hl
  have HMB := hide hmb
  have HX := hide hx
  have HF := hide hF
  have HV := hide hV
  have HH := hide hH
  have HSH := hide hsh
  have s1 := hz.s1
  have s2 := hz.s2
  obtain ⟨sa, sc, rfl⟩ := hl.shs.form
  obtain ⟨ma, mc, rfl⟩ := hl.mds.form
  obtain ⟨ta, tc, rfl⟩ := hl.tms.form
  obtain ⟨fa, fcap, rfl⟩ := hF.form
  obtain ⟨va, vcap, rfl⟩ := hV.form'
  obtain ⟨ha, hcap, rfl⟩ := hH.form'
  have HQ : Hid (aloneB Ts x.fields o F = (decide ((checkR x.fields o.nm o.tm o.vs o.hs o.ver).1 = 0) && (hasT Ts o.tm && decide (F = o.vs)))) := rfl
  have HP := hide (placeT_neg Ts o.tm)
  clear hl hmb hx hF hV hH hz hsh
  go_enter Tryz.func149, Tryz.ntmps149
  go_wp2_with fail
  generalize hWa : (World.alloc (World.alloc (w.alloc _) _) _) = Wa
  have HB : Hid (Below w.heap.size w Wa) := by rw [← hWa]; exact ((one_al w _).alloc (by simp) _).alloc (by simp; omega) _
  have HX1 : Hid (Box Wa w.heap.size #[.slice sa Ss.length sc, .slice ma Ms.length mc, .slice ta Ts.length tc]) := by rw [← hWa]; exact ((Box.new _ _ _ _ rfl).on (one_al _ _)).on (one_al _ _)
  have HX2 : Hid (Box Wa (w.heap.size + 1) #[.string x.kind, .slice fa x.fields.length fcap]) := by rw [← hWa]; exact (Box.new _ _ _ _ (by simp)).on (one_al _ _)
  have HX3 : Hid (Box Wa (w.heap.size + 1 + 1) #[.string o.kd, .string o.nm, .string o.tm, .slice va o.vs.length vcap, .bool o.en, .slice ha o.hs.length hcap, .int .i64 o.ver]) := by rw [← hWa]; exact Box.new _ _ _ _ (by simp)
  clear hWa
  refine (checkObject_any x.kind o.kd o.nm o.tm _ _ _ o.en o.ver o.vs o.hs x.fields Wa lo (HV.out.below HB.out) (HH.out.below HB.out) (HF.out.below HB.out) s1 s2).mono ?_
  rintro e w1 ⟨rfl, hb1⟩
  have HB1 : Hid (Below w.heap.size w w1) := HB.out.trans (hb1.mono HB.out.size)
  have HY1 := hide (HX1.out.on hb1)
  have HY2 := hide (HX2.out.on hb1)
  have HY3 := hide (HX3.out.on hb1)
  clear hb1 HX1 HX2 HX3 HB
  have y2 := HY1.out.cell 2
  have y3 := HY3.out.cell 2
  simp at y2 y3
  by_cases hck : (checkR x.fields o.nm o.tm o.vs o.hs o.ver).1 = 0
  case neg =>
    have HE : Hid (aloneB Ts x.fields o F = false) := by unfold Hid; rw [HQ.out, decide_eq_false hck]; rfl
    rw [errOf_some hck]
    go_wp2
    go_ret
    exact ⟨ret_bool HE.out.symm, HB1.out⟩
  have HLEN := hide (checkR_len hck)
  rw [errOf_none hck]
  go_wp2_with fail
  refine (teamPlace_any lo _ Ts _ _ (HL.out.below HB1.out).tms).mono ?_
  rintro e w2 ⟨rfl, hb2⟩
  have HB2 : Hid (Below w.heap.size w w2) := HB1.out.trans (hb2.mono HB1.out.size)
  have HZ1 := hide (HY1.out.on hb2)
  have HZ2 := hide (HY2.out.on hb2)
  have HZ3 := hide (HY3.out.on hb2)
  clear hb2 HY1 HY2 HY3 y2 y3 HB1
  cases h1 : hasT Ts o.tm with
  | false =>
    have HE : Hid (aloneB Ts x.fields o F = false) := by unfold Hid; rw [HQ.out, h1, Bool.false_and, Bool.and_false]
    have hd : decide (placeT Ts o.tm < 0) = true := by rw [HP.out, h1]; rfl
    go_wp2
    go_ret
    exact ⟨ret_bool HE.out.symm, HB2.out⟩
  | true =>
    have HE : Hid (aloneB Ts x.fields o F = decide (F = o.vs)) := by unfold Hid; rw [HQ.out, h1, decide_eq_true hck]; rfl
    have hd : decide (placeT Ts o.tm < 0) = false := by rw [HP.out, h1]; rfl
    go_wp2
    clear hd
    have HD : Hid (Below w.heap.size w w2.drew) := HB2.out.drew
    have hfd := field_values
    go_region_held3 (Held3 w2 w.heap.size #[.slice sa Ss.length sc, .slice ma Ms.length mc, .slice ta Ts.length tc] (w.heap.size + 1) #[.string x.kind, .slice fa x.fields.length fcap] (w.heap.size + 1 + 1) #[.string o.kd, .string o.nm, .string o.tm, .slice va o.vs.length vcap, .bool o.en, .slice ha o.hs.length hcap, .int .i64 o.ver])
      (first
        | (with_reducible exact Held3.drew HZ1.out HZ2.out HZ3.out)
        | (with_reducible exact Held3.on (by assumption) (by assumption)))
      (first
        | (go_at_call 186
           refine (shapeObj_any o.kd o.nm o.tm _ _ _ _ o.en o.ver o.vs o.hs Ss Ms x o.kd _ lo lo (HV.out.below HD.out) (HH.out.below HD.out) (HF.out.below HD.out) (HL.out.below HD.out).mds HMB.out HX.out HLEN.out.symm n2).mono ?_
           rintro e w3 ⟨v', h', F', rfl, hb3, ⟨mid, hlo, hmi, hs3, hs4⟩, hfix⟩
           have HFF : Hid (F' = F) := ShapeTo.unique (Or.inl ⟨x, HMB.out, HX.out, HLEN.out.symm, hfix⟩) HSH.out
           have HC3 : Hid (Below w.heap.size w w3) := HD.out.trans (hb3.mono HD.out.size)
           have HS3 := hide hs3.at
           obtain ⟨va', vcap', rfl⟩ := hs3.form
           obtain ⟨ha', hcap', rfl⟩ := hs4.form
           clear hfix hs3 hs4 hlo hmi)
        | (go_at_call 185
           refine (slEqual_any _ _ F' o.vs _ HS3.out (HV.out.below HC3.out)).mono ?_
           rintro e w4 ⟨rfl, hb4⟩
           have HC4 : Hid (Below w.heap.size w w4) := HC3.out.trans (hb4.mono HC3.out.size)))
    clear hfd
    go_wp2
    go_ret
    exact ⟨ret_bool (by rw [HE.out, HFF.out]), HC4.out⟩
end
end Go.Proofs.YthfdfdlojfdckaaGreat

namespace Go.Proofs.YthfdfdlojfdckaaGreat
open Go.RowKit Go.Deep Go.Maps

/-- what is asked of an object in a book; F: what shaping makes of its values -/
def obOne (Ss : List Sh) (Ts : List Tm) (Os : List Ob) (now : Int) (o : Ob) (F : List ByteArray) : Bool :=
  match shOf Ss o.kd with
  | some x => aloneB Ts x.fields o F && (inB 1 now o.ver && tiedB Os x.fields o.vs)
  | none => false
def obAt (Ss : List Sh) (Ts : List Tm) (B : Bk) (FF : Nat → List ByteArray) (i : Nat) : Bool :=
  match B.os[i]? with
  | some o => obOne Ss Ts B.os B.now o (FF i)
  | none => true
def objectsB (Ss : List Sh) (Ts : List Tm) (B : Bk) (FF : Nat → List ByteArray) : Bool := decide (B.os.length ≤ 40) && (risB cObs B.os && (List.range B.os.length).all (obAt Ss Ts B FF))
theorem obAt_eq {Ss : List Sh} {Ts : List Tm} {B : Bk} {FF : Nat → List ByteArray} {i : Nat} (h : i < B.os.length) : obAt Ss Ts B FF i = obOne Ss Ts B.os B.now B.os[i] (FF i) := by
  unfold obAt
  rw [List.getElem?_eq_getElem h]
theorem obOne_some {Ss : List Sh} {Ts : List Tm} {Os : List Ob} {now : Int} {o : Ob} {F : List ByteArray} {x : Sh} (h : shOf Ss o.kd = some x) : obOne Ss Ts Os now o F = (aloneB Ts x.fields o F && (inB 1 now o.ver && tiedB Os x.fields o.vs)) := by
  unfold obOne
  rw [h]
theorem obOne_none {Ss : List Sh} {Ts : List Tm} {Os : List Ob} {now : Int} {o : Ob} {F : List ByteArray} (h : shOf Ss o.kd = none) : obOne Ss Ts Os now o F = false := by
  unfold obOne
  rw [h]
theorem objects_no {Ss : List Sh} {Ts : List Tm} {B : Bk} {FF : Nat → List ByteArray} {i : Nat} (h : i < B.os.length) (hn : obOne Ss Ts B.os B.now B.os[i] (FF i) = false) : objectsB Ss Ts B FF = false := by
  unfold objectsB
  rw [range_not h (show obAt Ss Ts B FF i = false by rw [obAt_eq h]; exact hn), Bool.and_false, Bool.and_false]
theorem objects_yes {Ss : List Sh} {Ts : List Tm} {B : Bk} {FF : Nat → List ByteArray} (hl : B.os.length ≤ 40) (hr : risB cObs B.os = true) (h : ∀ i, i < B.os.length → obAt Ss Ts B FF i = true) : objectsB Ss Ts B FF = true := by
  unfold objectsB
  rw [decide_eq_true hl, hr, range_all h]
  rfl
theorem step_ob {p : Nat → Bool} {m : Nat} (h : ∀ j, j < m → p j = true) (hm : p m = true) : ∀ j, j < m + 1 → p j = true := fun j hj => by
  by_cases e : j = m
  · subst e; exact hm
  · exact h j (by omega)
/-- what shaping makes of the objects' values -/
def ShapesTo (Ss : List Sh) (Ms : List Md) (Os : List Ob) (FF : Nat → List ByteArray) : Prop := ∀ i (h : i < Os.length), ShapeTo Ss Ms Os[i].kd Os[i].vs (FF i)

section
variable (lo : Nat) (sv mv tv ov gv lv pv : Value) (Ss : List Sh) (Ms : List Md) (Ts : List Tm) (B : Bk) (FF : Nat → List ByteArray) (w : World)

set_option maxRecDepth 100000 in
set_option maxHeartbeats 8000000 in
theorem implObjects_any (hl : LawAt lo w sv mv tv Ss Ms Ts) (hmb : mendsB Ss Ms = true) (h : BookAt lo w ov gv lv pv B) (hn : ObsSmall B.os) (hsh : ShapesTo Ss Ms B.os FF) :
    Calls Tryz.prog 119 #[.agg #[sv, mv, tv], .agg #[.int .i64 B.now, .int .i64 B.tick, .int .i64 B.given, ov, gv, lv, pv]] w fun e w' => e = .returned (.bool (objectsB Ss Ts B FF)) ∧ Below w.heap.size w w' := by
  have HL := hide hl
  have HK := hide h
  have HMB := hide hmb
  have HN := hide hn
  have HSH := hide hsh
  obtain ⟨sa, sc, rfl⟩ := hl.shs.form
  obtain ⟨ma, mc, rfl⟩ := hl.mds.form
  obtain ⟨ta, tc, rfl⟩ := hl.tms.form
  obtain ⟨a0, k0, rfl⟩ := h.obs.form
  obtain ⟨a1, k1, rfl⟩ := h.grs.form
  obtain ⟨a2, k2, rfl⟩ := h.les.form
  obtain ⟨a3, k3, rfl⟩ := h.pus.form
  have HI : Hid (objectsB Ss Ts B FF = (decide (B.os.length ≤ 40) && (risB cObs B.os && (List.range B.os.length).all (obAt Ss Ts B FF)))) := rfl
  clear hl hmb h hn hsh
  by_cases hl : B.os.length ≤ 40
  case neg =>
    have HE : Hid (objectsB Ss Ts B FF = false) := by unfold Hid; rw [HI.out, decide_eq_false hl]; rfl
    have hgt : decide ((40 : Int) < (B.os.length : Int)) = true := by simp; omega
    go_enter Tryz.func119, Tryz.ntmps119
    go_wp2
    go_ret
    exact ⟨ret_bool HE.out.symm, (one_al w _).alloc (by simp) _⟩
  have hgt : decide ((40 : Int) < (B.os.length : Int)) = false := by simp; omega
  go_enter Tryz.func119, Tryz.ntmps119
  go_wp2_with fail
  generalize hWa : (World.alloc (w.alloc _) _) = Wa
  have HB : Hid (Below w.heap.size w Wa) := by rw [← hWa]; exact (one_al w _).alloc (by simp) _
  have HX : Hid (Box Wa w.heap.size #[.slice sa Ss.length sc, .slice ma Ms.length mc, .slice ta Ts.length tc]) := by rw [← hWa]; exact (Box.new _ _ _ _ rfl).on (one_al _ _)
  have HY : Hid (Box Wa (w.heap.size + 1) #[.int .i64 B.now, .int .i64 B.tick, .int .i64 B.given, .slice a0 B.os.length k0, .slice a1 B.gs.length k1, .slice a2 B.ls.length k2, .slice a3 B.ps.length k3]) := by rw [← hWa]; exact Box.new _ _ _ _ (by simp)
  clear hWa
  refine (ascObs_any lo _ B.os _ (HK.out.obs.below HB.out)).mono ?_
  rintro e w1 ⟨rfl, hb1⟩
  have HB1 : Hid (Below w.heap.size w w1) := HB.out.trans (hb1.mono HB.out.size)
  have HX1 := hide (HX.out.on hb1)
  have HY1 := hide (HY.out.on hb1)
  clear hb1 HB HX HY
  cases hr : risB cObs B.os with
  | false =>
    have HE : Hid (objectsB Ss Ts B FF = false) := by unfold Hid; rw [HI.out, hr, decide_eq_true hl]; rfl
    go_wp2
    go_ret
    exact ⟨ret_bool HE.out.symm, HB1.out⟩
  | true =>
    have z3 := HY1.out.cell 3
    simp at z3
    go_wp2_with fail
    refine (places_any lo _ B.os _ (HK.out.obs.below HB1.out) HN.out.1).mono ?_
    rintro e w2 ⟨rfl, hb2, D, ho, hpl⟩
    have HB2 : Hid (Below w.heap.size w w2) := HB1.out.trans (hb2.mono HB1.out.size)
    have HX2 := hide (HX1.out.on hb2)
    have HY2 := hide (HY1.out.on hb2)
    have HO2 := hide ho
    have HPL := hide hpl
    clear hb2 ho hpl z3 HB1 HX1 HY1
    generalize w1.heap.size = pb at *
    have z3 := HY2.out.cell 3
    simp at z3
    go_wp2
    clear z3
    go_loopw [26] (fun i wr => ∃ k : Nat, i = .int .i64 k ∧ k ≤ B.os.length ∧ Below w.heap.size w wr ∧ Box wr w.heap.size #[.slice sa Ss.length sc, .slice ma Ms.length mc, .slice ta Ts.length tc] ∧ Box wr (w.heap.size + 1) #[.int .i64 B.now, .int .i64 B.tick, .int .i64 B.given, .slice a0 B.os.length k0, .slice a1 B.gs.length k1, .slice a2 B.ls.length k2, .slice a3 B.ps.length k3] ∧ wr.ownsMap Tryz.prog 255 (plainElem Tryz.prog 3) pb B.os.length D ∧ ∀ j, j < k → obAt Ss Ts B FF j = true) (fun i _ => B.os.length - (intOf i).toNat)
    case atStart => exact ⟨0, rfl, Nat.zero_le _, HB2.out, HX2.out, HY2.out, HO2.out, fun j h => by omega⟩
    case round =>
      obtain ⟨k, rfl, hk, hb, hx, hy, ho, hall⟩ := hrel
      have HBr := hide hb
      have HXr := hide hx
      have HYr := hide hy
      have HOr := hide ho
      have HA := hide hall
      clear hb hx hy ho hall HB2 HX2 HY2 HO2
      by_cases hlt : k < B.os.length
      · obtain ⟨b, off, rfl, hbw, -, hc⟩ := HK.out.obs.full' (by omega)
        obtain ⟨hs, vv0, vv1, hcell, hv0, hv1⟩ := hc k hlt
        obtain ⟨c0, c1, c2, c3, c4, c5, c6⟩ := hcell.below HBr.out hbw
        have HZ := hide hs
        have HV := hide hv0.at
        have HH := hide hv1.at
        obtain ⟨va, vcap, rfl⟩ := hv0.at.form'
        obtain ⟨ha, hcap, rfl⟩ := hv1.at.form'
        have HQ := hide (obAt_eq (Ss := Ss) (Ts := Ts) (FF := FF) hlt)
        have n1 : B.os[k].vs.length ≤ 1048576 := (HN.out.2 k hlt).1
        have n2 : B.os[k].hs.length ≤ 1048576 := (HN.out.2 k hlt).2
        have x0 := HXr.out.cell 0
        simp at x0
        have xlt := HXr.out.lt
        have x0 : ∀ o, (wr.alloc o).cell? ⟨w.heap.size, 0, none⟩ = some (.slice sa Ss.length sc) := fun o => (cell_alloc_lt _ _ _ _ xlt).trans x0
        clear hc hcell hs hv0 hv1 xlt
        go_wp2_with fail
        generalize hWb : wr.alloc _ = Wb
        have hbb : Below wr.heap.size wr Wb := by rw [← hWb]; exact one_al _ _
        have HBb : Hid (Below w.heap.size w Wb) := HBr.out.trans (hbb.mono HBr.out.size)
        have HXb := hide (HXr.out.on hbb)
        have HYb := hide (HYr.out.on hbb)
        have HOb := hide (HOr.out.kept (grown_of_below' hbb) (by simp))
        have HPb : Hid (Box Wb wr.heap.size #[.string B.os[k].kd, .string B.os[k].nm, .string B.os[k].tm, .slice va B.os[k].vs.length vcap, .bool B.os[k].en, .slice ha B.os[k].hs.length hcap, .int .i64 B.os[k].ver]) := by rw [← hWb]; exact Box.new _ _ _ _ rfl
        clear hWb x0 hbb c0 c1 c2 c3 c4 c5 c6 HXr HYr HOr
        generalize hβ : wr.heap.size = β at *
        refine (shapeOf0_any lo _ Ss _ w _ HL.out.shs HBb.out).mono ?_
        rintro e w3 ⟨hb3, hq⟩
        have HB3 : Hid (Below w.heap.size w w3) := HBb.out.trans (hb3.mono HBb.out.size)
        have HX3 := hide (HXb.out.on hb3)
        have HY3 := hide (HYb.out.on hb3)
        have HP3 := hide (HPb.out.on hb3)
        have HO3 := hide (HOb.out.kept (grown_of_below' hb3) (by simp))
        clear hb3 HBb HXb HYb HPb HOb
        rcases hq with ⟨x, fv, hsh, rfl, hF⟩ | ⟨hno, rfl⟩
        · have HF := hide hF
          have HXS := hide hsh
          have HOS := hide (obOne_some (Ts := Ts) (Os := B.os) (now := B.now) (F := FF k) hsh)
          obtain ⟨fa, fcap, rfl⟩ := hF.form
          clear hF hsh
          have p0 : ∀ i o, (w3.alloc o).cell? ⟨w.heap.size, i, none⟩ = #[Value.slice sa Ss.length sc, .slice ma Ms.length mc, .slice ta Ts.length tc][i]? := fun i o => (cell_alloc_lt _ _ _ _ HX3.out.lt).trans (HX3.out.cell i)
          have p1 : ∀ i o, (w3.alloc o).cell? ⟨β, i, none⟩ = #[Value.string B.os[k].kd, .string B.os[k].nm, .string B.os[k].tm, .slice va B.os[k].vs.length vcap, .bool B.os[k].en, .slice ha B.os[k].hs.length hcap, .int .i64 B.os[k].ver][i]? := fun i o => (cell_alloc_lt _ _ _ _ HP3.out.lt).trans (HP3.out.cell i)
          go_wp2_with fail
          generalize hWc : w3.alloc _ = Wc
          have hbc : Below w3.heap.size w3 Wc := by rw [← hWc]; exact one_al _ _
          have HBc : Hid (Below w.heap.size w Wc) := HB3.out.trans (hbc.mono HB3.out.size)
          have HXc := hide (HX3.out.on hbc)
          have HYc := hide (HY3.out.on hbc)
          have HPc := hide (HP3.out.on hbc)
          have HOc := hide (HO3.out.kept (grown_of_below' hbc) (by simp))
          have HSc : Hid (Box Wc w3.heap.size #[.string x.kind, .slice fa x.fields.length fcap]) := by rw [← hWc]; exact Box.new _ _ _ _ rfl
          clear hWc p0 p1 hbc HX3 HY3 HP3 HO3
          generalize hγ : w3.heap.size = γ at *
          refine (objectOk_any lo _ _ _ _ _ _ Ss Ms Ts x B.os[k] (FF k) _ (HL.out.below HBc.out) HMB.out HXS.out (HF.out.below HBc.out) (HV.out.below HBc.out) (HH.out.below HBc.out) HZ.out n2 (HSH.out k hlt)).mono ?_
          rintro e w5 ⟨rfl, hb5⟩
          have HB5 : Hid (Below w.heap.size w w5) := HBc.out.trans (hb5.mono HBc.out.size)
          have HX5 := hide (HXc.out.on hb5)
          have HY5 := hide (HYc.out.on hb5)
          have HP5 := hide (HPc.out.on hb5)
          have HS5 := hide (HSc.out.on hb5)
          have HO5 := hide (HOc.out.kept (grown_of_below' hb5) (by simp))
          clear hb5 HBc HXc HYc HPc HSc HOc
          cases h1 : aloneB Ts x.fields B.os[k] (FF k) with
          | false =>
            have HE : Hid (objectsB Ss Ts B FF = false) := objects_no hlt (by rw [HOS.out, h1]; rfl)
            go_wp2
            go_ret
            exact ⟨ret_bool HE.out.symm, HB5.out⟩
          | true =>
            have y0 := HY5.out.cell 0
            have q6 := HP5.out.cell 6
            simp at y0 q6
            cases h2 : inB 1 B.now B.os[k].ver with
            | false =>
              have HE : Hid (objectsB Ss Ts B FF = false) := objects_no hlt (by rw [HOS.out, h2, Bool.false_and, Bool.and_false])
              go_wp2_with (go_at_call 99; refine (within_any _ _ _ _).mono ?_; rintro e w' ⟨rfl, rfl⟩)
              go_ret
              exact ⟨ret_bool HE.out.symm, HB5.out⟩
            | true =>
              have q0 := HP5.out.cell 0
              have q1 := HP5.out.cell 1
              have q2 := HP5.out.cell 2
              have q3 := HP5.out.cell 3
              have q4 := HP5.out.cell 4
              have q5 := HP5.out.cell 5
              have r0 := HS5.out.cell 0
              have r1 := HS5.out.cell 1
              simp at q0 q1 q2 q3 q4 q5 r0 r1
              have HLEN : Hid (x.fields.length = B.os[k].vs.length) := by
                unfold Hid
                have h3 := h1
                unfold aloneB at h3
                rw [Bool.and_eq_true] at h3
                exact (checkR_len (of_decide_eq_true h3.1)).symm
              cases h3 : tiedB B.os x.fields B.os[k].vs with
              | false =>
                have HE : Hid (objectsB Ss Ts B FF = false) := objects_no hlt (by rw [HOS.out, h3, Bool.and_false, Bool.and_false])
                go_wp2_with (first | (go_at_call 99; refine (within_any _ _ _ _).mono ?_; rintro e w' ⟨rfl, rfl⟩) | (go_at_call 150; refine (tied_any lo x.kind _ x.fields B.os[k].kd B.os[k].nm B.os[k].tm _ _ B.os[k].en B.os[k].ver B.os[k].vs B.os[k].hs B.os _ (HF.out.below HB5.out) (HV.out.below HB5.out) (HH.out.below HB5.out) HLEN.out n1 HO5.out HPL.out).mono ?_; rintro e w6 ⟨rfl, hb6⟩))
                have HB6 : Hid (Below w.heap.size w w6) := HB5.out.trans (hb6.mono HB5.out.size)
                go_ret
                exact ⟨ret_bool HE.out.symm, HB6.out⟩
              | true =>
                have HT : Hid (obAt Ss Ts B FF k = true) := by unfold Hid; rw [HQ.out, HOS.out, h1, h2, h3]; rfl
                go_wp2_with (first | (go_at_call 99; refine (within_any _ _ _ _).mono ?_; rintro e w' ⟨rfl, rfl⟩) | (go_at_call 150; refine (tied_any lo x.kind _ x.fields B.os[k].kd B.os[k].nm B.os[k].tm _ _ B.os[k].en B.os[k].ver B.os[k].vs B.os[k].hs B.os _ (HF.out.below HB5.out) (HV.out.below HB5.out) (HH.out.below HB5.out) HLEN.out n1 HO5.out HPL.out).mono ?_; rintro e w6 ⟨rfl, hb6⟩))
                have HB6 : Hid (Below w.heap.size w w6) := HB5.out.trans (hb6.mono HB5.out.size)
                have HX6 := hide (HX5.out.on hb6)
                have HY6 := hide (HY5.out.on hb6)
                have HO6 := hide (HO5.out.kept (grown_of_below' hb6) (by simp))
                clear hb6 HX5 HY5 HP5 HS5 HO5 y0 q0 q1 q2 q3 q4 q5 q6 r0 r1
                go_roundw
                case rel => exact ⟨k + 1, by go_num, by omega, HB6.out, HX6.out, HY6.out, HO6.out, step_ob HA.out HT.out⟩
                case measure => simp [intOf]; omega
        · have HE : Hid (objectsB Ss Ts B FF = false) := objects_no hlt (obOne_none hno)
          have HB4 : ∀ o, Hid (Below w.heap.size w (w3.alloc o)) := fun o => HB3.out.trans ((one_al _ _).mono HB3.out.size)
          go_wp2
          go_ret
          exact ⟨ret_bool HE.out.symm, (HB4 _).out⟩
      · have HT : Hid (objectsB Ss Ts B FF = true) := objects_yes hl hr (fun i hi => HA.out i (by omega))
        go_wp2
        go_ret
        exact ⟨ret_bool HT.out.symm, HBr.out⟩
end
end Go.Proofs.YthfdfdlojfdckaaGreat

