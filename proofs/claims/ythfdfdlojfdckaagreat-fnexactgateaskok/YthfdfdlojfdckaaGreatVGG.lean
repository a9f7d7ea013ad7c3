import Derived.Test.YthfdfdlojfdckaaGreatVG3c
import Derived.Test.YthfdfdlojfdckaaGreatVM5R
import Derived.RangeFuncWrites
import Derived.Maps.OwnIn
import Derived.Test.YthfdfdlojfdckaaGreatVTB
import Derived.Test.YthfdfdlojfdckaaGreatVLA
import Derived.Deep.RegionHeld3
import Derived.Test.YthfdfdlojfdckaaGreatVDA
import Derived.Test.YthfdfdlojfdckaaGreatVB1
import Derived.Test.YthfdfdlojfdckaaGreatVBOG
import Derived.Test.YthfdfdlojfdckaaGreatVMM
import Derived.Test.YthfdfdlojfdckaaGreatVA1
import Derived.Test.YthfdfdlojfdckaaGreatVTA
namespace Go.Proofs.YthfdfdlojfdckaaGreat
open Go.RowKit Go.Deep Go.Shelf Go.Maps

attribute [local go_sem] Oper.semAt_some

/-- rfMarks of ranges over functions that are behind -/
def rfMarks (ds : List Nat) : List Deferred := ds.map fun d => { target := .collected d, args := #[] }
theorem below_put {B : Nat} (W : World) {d : Nat} (o : Obj) (hd : B ≤ d) (hlt : d < W.heap.size) : Below B W (W.putObj d o) := by
  have g := grownBy_putObj' W d o
  exact ⟨g.os, g.tape, g.output, g.size, fun k hk => g.block k (by omega) (fun e => by have := Option.some.inj e; omega)⟩
theorem leaves_marks {F : Fence} {n : Nat} {P : Program} {fn : Func} {tmps : Array Value} {R : Ending → World → Prop} (B : Nat) : ∀ (ds : List Nat) (W : World), ds.Nodup → (∀ d ∈ ds, B ≤ d ∧ W.heap[d]? = some (.deferred (some []))) →
    (∀ W', Below B W W' → LeavesIn F n P fn tmps R [] .returning W') → LeavesInM F n P fn tmps R (rfMarks ds) .returning W
  | [], W, _, _, h => h W (Below.refl _ _)
  | d :: ds, W, hn, hd, h => by
    obtain ⟨h1, h2⟩ := hd d (List.mem_cons_self ..)
    obtain ⟨n1, n2⟩ := List.nodup_cons.1 hn
    have hb := below_put W (.deferred none) h1 (Array.getElem?_eq_some_iff.1 h2).1
    refine ⟨by simp, .inl ⟨d, _, rfl, run_takeDeferred h2, leaves_marks B ds _ n2 (fun e he => ?_) (fun W' hW' => h W' (hb.trans hW'))⟩⟩
    obtain ⟨g1, g2⟩ := hd e (List.mem_cons_of_mem _ he)
    have hne : e ≠ d := fun e' => n1 (e' ▸ he)
    exact ⟨g1, ((grownBy_putObj' W d _).block e (Array.getElem?_eq_some_iff.1 g2).1 (fun e' => hne (Option.some.inj e'))).trans g2⟩
theorem Box.of_block {w w' : World} {β : Nat} {cs : Array Value} (h : Box w β cs) (e : w'.heap[β]? = w.heap[β]?) : Box w' β cs :=
  ⟨by have := h.lt; rw [Array.getElem?_eq_getElem this] at e; exact (Array.getElem?_eq_some_iff.1 e).1, fun i => (World.cell?_of_block (a := ⟨β, i, none⟩) e).trans (h.cell i), fun i => (World.frozen?_of_block (a := ⟨β, i, none⟩) e).trans (h.free i)⟩

/-- the world while weights are gathered -/
structure WeiW (w : World) (T : List Tri) (ds : List Nat) (wr : World) : Prop where
  own : ∃ D : DataW Unit, wr.ownsMap Tryz.prog 232 (plainElem Tryz.prog 3) w.heap.size T.length D ∧ SumOk T D
  below : Below w.heap.size w wr
  ptr : Box wr (w.heap.size + 1) #[.map (some w.heap.size)]
  mks : ∀ d ∈ ds, w.heap.size + 2 ≤ d ∧ wr.heap[d]? = some (.deferred (some []))
  nd : ds.Nodup
theorem WeiW.grow {w : World} {T : List Tri} {ds : List Nat} {wr wr' : World} {row : Option Nat} (h : WeiW w T ds wr) (hg : wr.grownBy wr' row) (hr : ∀ r, row = some r → w.heap.size + 1 < r ∧ r ∉ ds) : WeiW w T ds wr' := by
  obtain ⟨D, ho, hs⟩ := h.own
  have hz := h.below.size
  refine ⟨⟨D, ho.kept hg (fun e => by have := (hr _ e.symm).1; omega), hs⟩, ?_, ?_, fun d hd => ?_, h.nd⟩
  · exact h.below.trans ⟨hg.os, hg.tape, hg.output, hg.size, fun k hk => hg.block k (by omega) (fun e => by have := (hr _ e.symm).1; omega)⟩
  · exact h.ptr.of_block (hg.block _ h.ptr.lt (fun e => by have := (hr _ e.symm).1; omega))
  · obtain ⟨h1, h2⟩ := h.mks d hd
    exact ⟨h1, (hg.block d (Array.getElem?_eq_some_iff.1 h2).1 (fun e => (hr _ e.symm).2 hd)).trans h2⟩

theorem WeiW.add {w : World} {A : List Tri} {α : Type} {pre : List α} {f : α → Tri} {x : α} {ds : List Nat} {wr wr' : World} {D : DataW Unit} (h : WeiW w (A ++ pre.map f) ds wr) (hg : wr.grownBy wr' (some w.heap.size))
    (ho : wr'.ownsMap Tryz.prog 232 (plainElem Tryz.prog 3) w.heap.size ((A ++ pre.map f).length + 1) D) (hs : SumOk (A ++ pre.map f ++ [f x]) D) : WeiW w (A ++ (pre ++ [x]).map f) ds wr' := by
  have e : A ++ (pre ++ [x]).map f = A ++ pre.map f ++ [f x] := by simp
  have hz := h.below.size
  rw [e]
  refine ⟨⟨D, by have e2 : (A ++ pre.map f ++ [f x]).length = (A ++ pre.map f).length + 1 := by simp [Nat.add_assoc]
                 rw [e2]; exact ho, hs⟩, ?_, ?_, fun d hd => ?_, h.nd⟩
  · exact h.below.trans ⟨hg.os, hg.tape, hg.output, hg.size, fun k hk => hg.block k (by omega) (fun e => by have := Option.some.inj e; omega)⟩
  · exact h.ptr.of_block (hg.block _ h.ptr.lt (fun e => by have := Option.some.inj e; omega))
  · obtain ⟨h1, h2⟩ := h.mks d hd
    exact ⟨h1, (hg.block d (Array.getElem?_eq_some_iff.1 h2).1 (fun e => by have := Option.some.inj e; omega)).trans h2⟩
theorem wpairs_mem {Fs : List Fd} {V : List ByteArray} : ∀ {k : Nat} {p : ByteArray × Int}, p ∈ wpairs Fs V k → ∃ f ∈ Fs, p.1 = f.we
  | 0, p, h => by simp [wpairs] at h
  | k + 1, p, h => by
    rw [wpairs] at h
    rcases List.mem_append.1 h with h | h
    · exact wpairs_mem h
    · split at h
      · rename_i f s hf _
        split at h
        · simp at h
          subst h
          exact ⟨f, List.mem_of_getElem? hf, rfl⟩
        · simp at h
      · simp at h
theorem wlist_size {lo : Nat} {w : World} {sv : Value} {Ss : List Sh} (hS : ShsAt lo w sv Ss) {kind : ByteArray} {V : List ByteArray} (sk : kind.size ≤ maxLen) (p : ByteArray × Int) (hp : p ∈ wlist Ss kind V) : p.1.size ≤ maxLen := by
  unfold wlist at hp
  split at hp
  · rename_i x hx
    split at hp
    · rcases List.mem_append.1 hp with h | h
      · unfold khead at h
        split at h
        · simp at h
        · simp at h
          subst h
          exact sk
      · obtain ⟨f, hf, e⟩ := wpairs_mem h
        obtain ⟨i, hi, rfl⟩ := List.getElem_of_mem (List.mem_of_find?_eq_some hx)
        obtain ⟨j, hj, rfl⟩ := List.getElem_of_mem hf
        rcases hS with ⟨_, _, _, rfl⟩ | ⟨b, off, cap, h1, h2, h3, h4, h5, h7⟩
        · simp at hi
        · obtain ⟨hs, fv, c0, c1, hF⟩ := h7 i hi
          rcases hF with ⟨_, _, _, e0⟩ | ⟨b', off', cap', g1, g2, g3, g4, g5, g7⟩
          · simp [e0] at hj
          · rw [e]
            exact (g7.2 j hj).1.s10
    · simp at hp
  · simp at hp

section
variable (lo : Nat) (sv ov : Value) (Ss : List Sh) (Os : List Ob) (w : World)

set_option maxRecDepth 100000 in
set_option maxHeartbeats 1000000 in
theorem weighed_any (hS : ShsAt lo w sv Ss) (hO : ObsAt lo w ov Os) (hn : ObsSmall Os) :
    Calls Tryz.prog 160 #[sv, ov] w
      fun e w' => e = .returned (.map (some w.heap.size)) ∧ Below w.heap.size w w' ∧ ∃ D : DataW Unit, w'.ownsMap Tryz.prog 232 (plainElem Tryz.prog 3) w.heap.size (wtrip Ss Os).length D ∧ SumOk (wtrip Ss Os) D := by
  have HS := hide hS
  have HO := hide hO
  obtain ⟨a, cap, rfl⟩ := hS.form
  obtain ⟨oa, ocap, rfl⟩ := hO.form
  have hm := HO.out.max
  unfold maxLen at hm
  clear hS hO
  refine (callsIn_wide (n := 5)).1 ?_
  refine callsIn_of_wp_marks Tryz.func160 rfl trivial ?_ rfl
  simp only [Tryz.ntmps160, List.size_toArray, List.length_cons, List.length_nil, Nat.reduceAdd, Nat.reduceSub, Array.replicate_succ, Array.replicate_zero, List.push_toArray, List.append_toArray, List.nil_append, List.cons_append]
  have hmm := @run_makeMap Tryz.prog
  gi_wp2
  clear hmm
  refine wpIn_loop (fun a' wr => ∃ (k : Nat) (ds : List Nat) (u7 u14 u15 u16 u17 u18 u19 u32 : Value),
      (k ≤ Os.length ∧ WeiW w (wtrip Ss (Os.take k)) ds wr) ∧
      a' = { tmps := #[.slice a Ss.length cap, .slice oa Os.length ocap, undef, undef, .map none, .pointer (some ⟨w.heap.size + 1, 0, none⟩), undef, u7, undef, undef, .map (some w.heap.size), .slice oa Os.length ocap, .int .i64 Os.length, .int .i64 k, u14, u15, u16, u17, u18, u19, undef, undef, undef, undef, undef, undef, undef, undef, undef, undef, undef, undef, u32, undef], defers := rfMarks ds })
    (fun a' _ => Os.length - (intOf (a'.tmps.getD 13 undef)).toNat) ?_ ?_
  · refine ⟨0, [], undef, undef, undef, undef, undef, undef, undef, undef, ⟨Nat.zero_le _, ?_⟩, rfl⟩
    refine ⟨⟨.map [], ?_, SumOk.start⟩, ?_, ?_, fun d hd => absurd hd List.not_mem_nil, List.nodup_nil⟩
    · exact (World.ownsMap_made _ _ _ _).alloc _
    · exact (one_al _ _).trans ((one_al _ _).mono (by simp))
    · exact Box.new _ _ _ _ (by simp)
  · rintro _ wr ⟨k, ds, u7, u14, u15, u16, u17, u18, u19, u32, ⟨hk, hW⟩, rfl⟩
    have HW := hide hW
    clear hW
    by_cases hlt : k < Os.length
    · have hb := HW.out.below
      have hw0 := hb.size
      obtain ⟨b, off, rfl, hbw, -, hc⟩ := HO.out.full' (by omega)
      obtain ⟨hs, vv0, vv1, hcell, hv0, hv1⟩ := hc k hlt
      obtain ⟨c0, c1, c2, c3, c4, c5, c6⟩ := hcell.below hb hbw
      have HV := hide hv0.at
      obtain ⟨va, vcap, rfl⟩ := hv0.at.form'
      obtain ⟨ha, hcap, rfl⟩ := hv1.at.form'
      have HZ := hide hs
      have HN : Hid (Os[k].vs.length ≤ 1048576) := (hn.2 k hlt).1
      clear hc hcell hv0 hv1 hs hb
      gi_wp2_with fail
      refine ⟨trivial, (weights_in Os[k].kd Os[k].nm Os[k].tm Os[k].en Os[k].ver _ Fence.wide _ trivial rfl a Ss.length cap va Os[k].vs.length vcap ha Os[k].hs.length hcap).mono ?_⟩
      rintro e w1 ⟨rfl, hw1⟩
      obtain ⟨wl, hwl, HX7, HX1, HX2, HWl, hsz⟩ : ∃ wl, wl = w1 ∧ Hid (Box wl wr.heap.size #[.string Os[k].kd, .string Os[k].nm, .string Os[k].tm, .slice va Os[k].vs.length vcap, .bool Os[k].en, .slice ha Os[k].hs.length hcap, .int .i64 Os[k].ver]) ∧ Hid (Box wl (wr.heap.size + 1) #[.slice a Ss.length cap]) ∧ Hid (Box wl (wr.heap.size + 1 + 1) #[.string Os[k].kd, .string Os[k].nm, .string Os[k].tm, .slice va Os[k].vs.length vcap, .bool Os[k].en, .slice ha Os[k].hs.length hcap, .int .i64 Os[k].ver]) ∧ Hid (WeiW w (wtrip Ss (Os.take k)) ds wl) ∧ wl.heap.size = wr.heap.size + 3 := by
        refine ⟨_, rfl, ?_, ?_, ?_, ?_, ?_⟩
        · rw [hw1]; exact ((Box.new _ _ _ _ rfl).on (one_al _ _)).on (one_al _ _)
        · rw [hw1]; exact (Box.new _ _ _ _ (by simp)).on (one_al _ _)
        · rw [hw1]; exact Box.new _ _ _ _ (by simp)
        · rw [hw1]; exact ((HW.out.grow (World.grownBy_alloc _ _ none) (fun r e => by cases e)).grow (World.grownBy_alloc _ _ none) (fun r e => by cases e)).grow (World.grownBy_alloc _ _ none) (fun r e => by cases e)
        · rw [hw1]; simp
      subst hwl
      clear hw1
      gi_wp2
      have hdl : ∀ d ∈ ds, d < wl.heap.size := fun d hd => (Array.getElem?_eq_some_iff.1 (HWl.out.mks d hd).2).1
      have hlen : (wtrip Ss (Os.take k)).length ≤ 1048576 * 1048577 := by
        have := wtrip_len Ss (Os.take k) (fun o ho => by
          obtain ⟨i, hi, rfl⟩ := List.getElem_of_mem (List.mem_of_mem_take ho)
          exact (hn.2 i hi).1)
        have h1 := hn.1
        have h2 := List.length_take_le k Os
        exact Nat.le_trans this (Nat.mul_le_mul_right _ (by omega))
      refine wpIn_rangeFunc_ownG rfl (by decide) (gf := 214) (lb := #[.pointer (some ⟨wr.heap.size + 1, 0, none⟩), .pointer (some ⟨wr.heap.size + 1 + 1, 0, none⟩)]) rfl trivial (enters_of Tryz.func214 (by kernel_rfl) rfl)
        (weights_stopsC lo _ Ss Os[k].kd Os[k].nm Os[k].tm _ _ Os[k].en Os[k].ver Os[k].vs wl _ HZ.out.s0 (by decide) (fun k => k = w.heap.size) w _ _ HWl.out.below HS.out HV.out HN.out (fun k hk he => by omega) (by omega) (fun k hk he => by omega) HX1.out HX2.out)
        KeepsBut.trans KeepsBut.put (Below.refl _ _) (fun _ => rfl)
        (fun pre W => WeiW w (wtrip Ss (Os.take k) ++ pre.map fun p => (Os[k].tm, cutS p.1, p.2)) ds W ∧ Box W wr.heap.size #[.string Os[k].kd, .string Os[k].nm, .string Os[k].tm, .slice va Os[k].vs.length vcap, .bool Os[k].en, .slice ha Os[k].hs.length hcap, .int .i64 Os[k].ver])
        (fun _ _ _ => False)
        (fun s A B row hs hg hr => ⟨hs.1.grow hg (fun r e => ⟨by have := (hr r e).1; omega, fun hd => by have := (hr r e).1; have := hdl r hd; omega⟩), hs.2.of_block (hg.block _ hs.2.lt (fun e => by have := (hr _ e.symm).1; omega))⟩)
        (fun _ _ _ _ _ hs _ _ => hs)
        ⟨by simpa using HWl.out, HX7.out⟩
        (fun x => { tmps := #[.slice a Ss.length cap, .slice (some ⟨b, off, none⟩) Os.length ocap, undef, undef, .map none, .pointer (some ⟨w.heap.size + 1, 0, none⟩), undef, .pointer (some ⟨wr.heap.size, 0, none⟩), .string (cutS x.1), .int .i64 x.2, .map (some w.heap.size), .slice (some ⟨b, off, none⟩) Os.length ocap, .int .i64 Os.length, .int .i64 k, .bool true, .pointer (some ⟨b, off + k * 7, none⟩), .agg #[.string Os[k].kd, .string Os[k].nm, .string Os[k].tm, .slice va Os[k].vs.length vcap, .bool Os[k].en, .slice ha Os[k].hs.length hcap, .int .i64 Os[k].ver], .slice a Ss.length cap, .agg #[.string Os[k].kd, .string Os[k].nm, .string Os[k].tm, .slice va Os[k].vs.length vcap, .bool Os[k].en, .slice ha Os[k].hs.length hcap, .int .i64 Os[k].ver], .func (.func 214) #[] #[.pointer (some ⟨wr.heap.size + 1, 0, none⟩), .pointer (some ⟨wr.heap.size + 1 + 1, 0, none⟩)], .string (cutS x.1), .int .i64 x.2, undef, undef, undef, undef, undef, undef, undef, undef, undef, undef, u32, undef], defers := [] }) ?assign ?body ?done ?stop
      case assign =>
        intro l x W K hK
        gi_wp2
        exact hK
      case body =>
        rintro l pre x W ⟨hWe, hX⟩ hpl
        have HWe := hide hWe
        have HX := hide hX
        obtain ⟨D, ho, hsum⟩ := hWe.own
        have hpl' : pre.length ≤ 1048577 := by have := HN.out; omega
        obtain ⟨c, v0, st, w1, hent, hat, hwc, hl0, hl1, hg1, hs1, hst⟩ := entry_own accLaw Tryz.underlying227 Tryz.underlying3 accZero ho.drew (by unfold maxLen; simp; omega) (accTwo.mk' HZ.out.s2 (cutS_le x.1))
        have ew : IntKind.i64.wrap (c + x.2) = wrap64 (c + x.2) := IntWalk.i64_left _
        obtain ⟨w2, hrun2, ho2, hg2, hs2⟩ := hst (IntKind.i64.wrap (c + x.2)) (by rw [ew]; exact wrap64_wf _)
        rw [ew] at ho2
        have HO2 := hide ho2
        have HG2 := hide hg2
        have HAT := hide hat
        have HSUM := hide hsum
        clear ew hst ho2 hg2 hg1 hat hsum ho
        have p0 := hWe.ptr.cell 0
        have x2 := hX.cell 2
        simp at p0 x2
        simp only [goInt] at hent hrun2
        clear hWe hX
        refine wpIn_mono (Q := fun e _ W' => e = .normal ∧ W' = w2) ?_ ?_
        · clear HWe HX HO2 HG2 HAT HSUM HS HV HN HZ HX1 HX2 HX7 HWl HW hs1 hs2 hpl hpl' hdl hlen hm hk hn c0 c1 c2 c3 c4 c5 c6 hsz hw0 hwc
          gi_wp2
          generalize Os[k].tm = T at *
          generalize cutS x.1 = R at *
          generalize x.2 = N at *
          refine region_round (by kernel_rfl) (by kernel_rfl) ?_
          refine wpAnyIn_take (i := 1) (v := ?v1) rfl rfl (by kernel_rfl) (by kernel_rfl) (by kernel_rfl) (fun _ _ _ h => h) ⟨Or.inl ⟨by rfl, ?hy1⟩, fun _ => rfl⟩ ?rest1
          case hy1 => (intro w; go_simp; try with_reducible rfl)
          refine wpAnyIn_take (i := 3) (v := ?v2) rfl rfl (by kernel_rfl) (by kernel_rfl) (by kernel_rfl) (fun _ _ _ h => h) ⟨Or.inl ⟨by rfl, ?hy2⟩, fun _ => rfl⟩ ?rest2
          case hy2 => (intro w; go_simp; try with_reducible rfl)
          refine wpAnyIn_take (i := 6) (v := ?v3) rfl rfl (by kernel_rfl) (by kernel_rfl) (by kernel_rfl) (fun _ _ _ h => h) ⟨Or.inl ⟨by rfl, ?hy3⟩, fun _ => rfl⟩ ?rest3
          case hy3 => (intro w; go_simp; try with_reducible rfl)
          refine wpAnyIn_ready (rs := [0, 2]) (by kernel_rfl) (by simp) ?_
          refine AllReadyIn.cons rfl (fun K hK => ?_) (AllReadyIn.cons rfl (fun K hK => ?_) AllReadyIn.nil)
          · go_simp
            refine hK _ _ ?_; clear hK K
            refine wpAnyIn_ready (rs := [2]) (by kernel_rfl) (by simp) ?_
            refine AllReadyIn.cons rfl (fun K hK => ?_) AllReadyIn.nil
            go_simp
            refine hK _ _ ?_; clear hK K
            refine wpAnyIn_take (i := 4) (v := ?v4) rfl rfl (by kernel_rfl) (by kernel_rfl) (by kernel_rfl) (fun _ _ _ h => h) ⟨Or.inl ⟨by rfl, ?hy4⟩, fun _ => rfl⟩ ?rest4
            case hy4 => (intro w; go_simp; try with_reducible rfl)
            refine wpAnyIn_ready (rs := [5, 8]) (by kernel_rfl) (by simp) ?_
            refine AllReadyIn.cons rfl (fun K hK => ?_) (AllReadyIn.cons rfl (fun K hK => ?_) AllReadyIn.nil)
            · go_simp
              refine hK _ _ ?_; clear hK K
              refine wpAnyIn_take (i := 7) (v := ?v5) rfl rfl (by kernel_rfl) (by kernel_rfl) (by kernel_rfl) (fun _ _ _ h => h) ⟨Or.inl ⟨by rfl, ?hy5⟩, fun _ => rfl⟩ ?rest5
              case hy5 => (intro w; go_simp; try with_reducible rfl)
              refine wpAnyIn_ready (rs := [8]) (by kernel_rfl) (by simp) ?_
              refine AllReadyIn.cons rfl (fun K hK => ?_) AllReadyIn.nil
              go_simp
              refine hK _ _ ?_; clear hK K
              refine wpAnyIn_take (i := 9) (v := ?v6) rfl rfl (by kernel_rfl) (by kernel_rfl) (by kernel_rfl) (fun _ _ _ h => h) ⟨Or.inl ⟨by rfl, ?hy6⟩, fun _ => rfl⟩ ?rest6
              case hy6 => (intro w; go_simp; try with_reducible rfl)
              refine wpAnyIn_ready (rs := [10]) (by kernel_rfl) (by simp) ?_
              refine AllReadyIn.cons rfl (fun K hK => ?_) AllReadyIn.nil
              go_simp
              refine hK _ _ ?_; clear hK K
              refine wpAnyIn_done (by kernel_rfl) ?_ _
              exact ⟨rfl, rfl⟩
            · go_simp
              refine hK _ _ ?_; clear hK K
              refine wpAnyIn_take (i := 9) (v := ?v7) rfl rfl (by kernel_rfl) (by kernel_rfl) (by kernel_rfl) (fun _ _ _ h => h) ⟨Or.inl ⟨by rfl, ?hy7⟩, fun _ => rfl⟩ ?rest7
              case hy7 => (intro w; go_simp; try with_reducible rfl)
              refine wpAnyIn_ready (rs := [5]) (by kernel_rfl) (by simp) ?_
              refine AllReadyIn.cons rfl (fun K hK => ?_) AllReadyIn.nil
              go_simp
              refine hK _ _ ?_; clear hK K
              refine wpAnyIn_take (i := 7) (v := ?v8) rfl rfl (by kernel_rfl) (by kernel_rfl) (by kernel_rfl) (fun _ _ _ h => h) ⟨Or.inl ⟨by rfl, ?hy8⟩, fun _ => rfl⟩ ?rest8
              case hy8 => (intro w; go_simp; try with_reducible rfl)
              refine wpAnyIn_ready (rs := [10]) (by kernel_rfl) (by simp) ?_
              refine AllReadyIn.cons rfl (fun K hK => ?_) AllReadyIn.nil
              go_simp
              refine hK _ _ ?_; clear hK K
              refine wpAnyIn_done (by kernel_rfl) ?_ _
              exact ⟨rfl, rfl⟩
          · go_simp
            refine hK _ _ ?_; clear hK K
            refine wpAnyIn_take (i := 4) (v := ?v9) rfl rfl (by kernel_rfl) (by kernel_rfl) (by kernel_rfl) (fun _ _ _ h => h) ⟨Or.inl ⟨by rfl, ?hy9⟩, fun _ => rfl⟩ ?rest9
            case hy9 => (intro w; go_simp; try with_reducible rfl)
            refine wpAnyIn_ready (rs := [0]) (by kernel_rfl) (by simp) ?_
            refine AllReadyIn.cons rfl (fun K hK => ?_) AllReadyIn.nil
            go_simp
            refine hK _ _ ?_; clear hK K
            refine wpAnyIn_ready (rs := [5, 8]) (by kernel_rfl) (by simp) ?_
            refine AllReadyIn.cons rfl (fun K hK => ?_) (AllReadyIn.cons rfl (fun K hK => ?_) AllReadyIn.nil)
            · go_simp
              refine hK _ _ ?_; clear hK K
              refine wpAnyIn_take (i := 7) (v := ?v10) rfl rfl (by kernel_rfl) (by kernel_rfl) (by kernel_rfl) (fun _ _ _ h => h) ⟨Or.inl ⟨by rfl, ?hy10⟩, fun _ => rfl⟩ ?rest10
              case hy10 => (intro w; go_simp; try with_reducible rfl)
              refine wpAnyIn_ready (rs := [8]) (by kernel_rfl) (by simp) ?_
              refine AllReadyIn.cons rfl (fun K hK => ?_) AllReadyIn.nil
              go_simp
              refine hK _ _ ?_; clear hK K
              refine wpAnyIn_take (i := 9) (v := ?v11) rfl rfl (by kernel_rfl) (by kernel_rfl) (by kernel_rfl) (fun _ _ _ h => h) ⟨Or.inl ⟨by rfl, ?hy11⟩, fun _ => rfl⟩ ?rest11
              case hy11 => (intro w; go_simp; try with_reducible rfl)
              refine wpAnyIn_ready (rs := [10]) (by kernel_rfl) (by simp) ?_
              refine AllReadyIn.cons rfl (fun K hK => ?_) AllReadyIn.nil
              go_simp
              refine hK _ _ ?_; clear hK K
              refine wpAnyIn_done (by kernel_rfl) ?_ _
              exact ⟨rfl, rfl⟩
            · go_simp
              refine hK _ _ ?_; clear hK K
              refine wpAnyIn_take (i := 9) (v := ?v12) rfl rfl (by kernel_rfl) (by kernel_rfl) (by kernel_rfl) (fun _ _ _ h => h) ⟨Or.inl ⟨by rfl, ?hy12⟩, fun _ => rfl⟩ ?rest12
              case hy12 => (intro w; go_simp; try with_reducible rfl)
              refine wpAnyIn_ready (rs := [5]) (by kernel_rfl) (by simp) ?_
              refine AllReadyIn.cons rfl (fun K hK => ?_) AllReadyIn.nil
              go_simp
              refine hK _ _ ?_; clear hK K
              refine wpAnyIn_take (i := 7) (v := ?v13) rfl rfl (by kernel_rfl) (by kernel_rfl) (by kernel_rfl) (fun _ _ _ h => h) ⟨Or.inl ⟨by rfl, ?hy13⟩, fun _ => rfl⟩ ?rest13
              case hy13 => (intro w; go_simp; try with_reducible rfl)
              refine wpAnyIn_ready (rs := [10]) (by kernel_rfl) (by simp) ?_
              refine AllReadyIn.cons rfl (fun K hK => ?_) AllReadyIn.nil
              go_simp
              refine hK _ _ ?_; clear hK K
              refine wpAnyIn_done (by kernel_rfl) ?_ _
              exact ⟨rfl, rfl⟩
        · rintro e a' W' ⟨rfl, rfl⟩
          have g := HG2.out
          have hpt := HW.out.ptr.lt
          have hg : W.grownBy W' (some w.heap.size) := ⟨g.os, g.tape, g.output, g.size, g.block⟩
          exact ⟨KeepsFrom.of_grownBy hg (fun j e => by cases e; omega), ⟨hg.os, hg.tape, hg.output, hg.size, fun j o hj hS _ => (hg.block j (Array.getElem?_eq_some_iff.1 hj).1 (fun e => hS (Option.some.inj e))).trans hj⟩,
            HWe.out.add hg HO2.out (HSUM.out.step HZ.out.s2 (cutS_le _) HAT.out x.2), HX.out.of_block (hg.block _ HX.out.lt (fun e => by have := Option.some.inj e; omega))⟩
      case done =>
        rintro D ys W hD rfl ⟨hWe, hX⟩ hK
        have HWe := hide hWe
        clear hWe hX
        gi_wp2
        refine ⟨⟨k + 1, D :: ds, _, _, _, _, _, _, _, _, ⟨by omega, ?_⟩, rfl⟩, ?_⟩
        · have e : wtrip Ss (Os.take (k + 1)) = wtrip Ss (Os.take k) ++ (wlist Ss Os[k].kd Os[k].vs).map fun p => (Os[k].tm, cutS p.1, p.2) := by
            rw [List.take_succ_eq_append_getElem hlt, wtrip_snoc]
            congr 1
            refine List.map_congr_left fun p hp => ?_
            rw [cutS_ok (wlist_size HS.out HZ.out.s0 p hp)]
          rw [e]
          have hpt := HWl.out.ptr.lt
          exact ⟨HWe.out.own, HWe.out.below, HWe.out.ptr, fun d hd => by
            rcases List.mem_cons.1 hd with rfl | hd
            · exact ⟨by omega, hK⟩
            · exact HWe.out.mks d hd, List.nodup_cons.2 ⟨fun hd => by have := hdl D hd; omega, HWe.out.nd⟩⟩
        · simp [intOf]; omega
      case stop =>
        rintro D c pre W _ _ h _
        exact h.elim
    · have he : k = Os.length := by omega
      subst he
      have p0 := HW.out.ptr.cell 0
      simp at p0
      gi_wp2
      refine leaves_marks (w.heap.size + 2) ds wr HW.out.nd HW.out.mks (fun W' hb => ⟨_, results_tmp rfl _ _ _, rfl, HW.out.below.trans (hb.mono (by omega)), ?_⟩)
      obtain ⟨D, ho, hsum⟩ := HW.out.own
      rw [List.take_length] at ho hsum
      exact ⟨D, owns_same ho (hb.block _ (by omega)), hsum⟩
end
end Go.Proofs.YthfdfdlojfdckaaGreat

namespace Go.Proofs.YthfdfdlojfdckaaGreat
open Go.RowKit Go.Deep Go.Maps

theorem ranges_kept_below {w wr w1 : World} {r : Nat} (h : Below w.heap.size w wr) (hg : wr.grownBy w1 (some r)) (hr : w.heap.size ≤ r) : Below w.heap.size w w1 := by
  have hz := h.size
  exact h.trans ⟨hg.os, hg.tape, hg.output, hg.size, fun k hk => hg.block k (by omega) (fun e => by have := Option.some.inj e; omega)⟩
theorem grown_of_below' {w w' : World} (h : Below w.heap.size w w') : w.grownBy w' none :=
  ⟨h.os, h.tape, h.output, h.size, fun k hk _ => h.block k hk⟩

section
variable (lo : Nat) (tv : Value) (Ts : List Tm) (team r : ByteArray) (T : List Tri) (w : World)

set_option maxRecDepth 100000 in
set_option maxHeartbeats 2000000 in
theorem sumsUnder_any {D : DataW Unit} {b n : Nat} (hT : TmsAt lo w tv Ts) (hown : w.ownsMap Tryz.prog 232 (plainElem Tryz.prog 3) b n D) (hs : SumOk T D) (hok : TriOk T) :
    Calls Tryz.prog 162 #[.map (some b), tv, .string team, .string r] w
      fun e w' => e = .returned (.int .i64 (wrap64 (T.map (ugood Ts team r)).sum)) ∧ Below w.heap.size w w' := by
  have HT := hide hT
  have HS := hide hs
  have HK := hide hok
  obtain ⟨ta, tcap, rfl⟩ := hT.form
  clear hT hs hok
  go_enter Tryz.func162, Tryz.ntmps162
  go_wp2_with (first
    | (at_range; refine wpList_range_own _ rfl _ 227 rfl 232 3 accKeyed Tryz.underlying227 _ b n _ rfl hown ?_; intro w0 hrg0 hg0 hs0)
    | go_in)
  go_frame
  go_loopw [9] (fun s wr => ∃ (left : Lit → Bool) (cnt : Nat), wr.ranges Tryz.prog 232 (plainElem Tryz.prog 3) b w.heap.size n D left cnt ∧ s = .int .i64 (wrap64 (usum Ts team r T left)) ∧ Below w.heap.size w wr)
    (fun _ wr => wr.rangeLeft b w.heap.size)
  case atStart => exact ⟨_, _, hrg0, by rw [usum_start HS.out]; simp [wrap64], ⟨hg0.os, hg0.tape, hg0.output, hg0.size, fun k hk => hg0.block k hk (by simp)⟩⟩
  case round =>
    obtain ⟨left, cnt, hrg, rfl, hb⟩ := hrel
    have HB := hide hb
    clear hb
    go_wp2_with (first
      | (at_next; refine wpList_next_ranges _ rfl _ rfl 232 accKeyed (plainElem Tryz.prog 3) (fun p : ByteArray × ByteArray => .agg #[.string p.1, .string p.2]) (Value.int .i64) (fun key kl h => by obtain ⟨x, y, rfl, _⟩ := accTwo.inv h; exact ⟨(x, y), rfl⟩) (fun v y hv => by obtain ⟨c, rfl, _⟩ := plainElem_int_inv Tryz.underlying3 hv; exact ⟨c, rfl⟩) b w.heap.size n _ _ _ rfl hrg ?_ ?_)
      | go_in)
    · intro _ hl0
      go_wp2
      go_ret
      exact ⟨ret_int (by rw [usum_end hl0]), HB.out⟩
    · intro xa xb c kl yd yp w1 cnt1 hkey hlk hv hat hrg1 hlt hg1 hs1 hen
      obtain ⟨xa', xb', exy, rfl, sa, sb⟩ := accTwo.inv hkey
      have e12 : xa = xa' ∧ xb = xb' := by simpa using exy
      obtain ⟨rfl, rfl⟩ := e12
      clear exy hkey
      have hbo := hrg1.owns.lt
      obtain ⟨c', ec, ey, hwc⟩ := plainElem_int_inv Tryz.underlying3 hv
      have hcc : c = wrap64 (ksum T xa xb) := by
        have h1 := hat (.lit (.int .i64 0))
        rw [HS.out.sums xa xb sa sb] at h1
        have h2 : yd = .lit (.int .i64 c') := congrArg Prod.fst ey
        rw [h2] at h1
        injection h1 with h1
        injection h1 with _ h1
        injection ec with _ ec
        rw [ec, h1]
      have HST := hide (usum_step Ts team r sa sb hlk T HK.out)
      have HB1 : Hid (Below w.heap.size w w1) := ranges_kept_below HB.out hg1 (Nat.le_refl _)
      have HRG1 := hide hrg1
      clear hv hat ec ey hwc hlk hrg1 hg1
      cases hq : (xb.toList == r.toList) with
      | false =>
        have HE : Hid (usum Ts team r T (fun z => left z && !z.sameKey (accL xa xb)) = usum Ts team r T left) := by unfold Hid; rw [HST.out, hq]; simp
        go_wp2
        go_roundw
        case rel => exact ⟨_, cnt1, HRG1.out.alloc _, by rw [HE.out], HB1.out.trans ((one_al _ _).mono HB1.out.size)⟩
        case measure => rw [(HRG1.out.alloc _).left_eq, hrg.left_eq]; exact hlt
      | true =>
        go_wp2_with fail
        refine (implUnder_any lo _ Ts xa team _ ((HT.out.below HB1.out).below (one_al _ _))).mono ?_
        rintro e w2 ⟨rfl, hb2⟩
        have HRG2 := hide (HRG1.out.kept (((World.grownBy_alloc w1 _ none)).trans (grown_of_below' hb2)) (by simp) (by simp))
        have HB2 : Hid (Below w.heap.size w w2) := (HB1.out.trans ((one_al _ _).mono HB1.out.size)).trans (hb2.mono ((HB1.out.trans ((one_al _ _).mono HB1.out.size)).size))
        clear hb2
        cases hu : underB Ts xa team with
        | false =>
          have HE : Hid (usum Ts team r T (fun z => left z && !z.sameKey (accL xa xb)) = usum Ts team r T left) := by unfold Hid; rw [HST.out, hq, hu]; simp
          go_wp2
          go_roundw
          case rel => exact ⟨_, cnt1, HRG2.out, by rw [HE.out], HB2.out⟩
          case measure => rw [HRG2.out.left_eq, hrg.left_eq]; exact hlt
        | true =>
          have HE : Hid (usum Ts team r T (fun z => left z && !z.sameKey (accL xa xb)) = usum Ts team r T left + ksum T xa xb) := by unfold Hid; rw [HST.out, hq, hu]; simp
          go_wp2
          go_roundw
          case rel => exact ⟨_, cnt1, HRG2.out, by rw [HE.out, wrap_add2], HB2.out⟩
          case measure => rw [HRG2.out.left_eq, hrg.left_eq]; exact hlt
end
end Go.Proofs.YthfdfdlojfdckaaGreat

namespace Go.Proofs.YthfdfdlojfdckaaGreat
open Go.RowKit Go.Deep Go.Maps

theorem trip_ok {lo : Nat} {w : World} {sv : Value} {Ss : List Sh} (hS : ShsAt lo w sv Ss) {Os : List Ob} (hO : ∀ o ∈ Os, ObSize o) : TriOk (wtrip Ss Os) := by
  intro p hp
  obtain ⟨o, ho, hq⟩ := List.mem_flatMap.1 hp
  obtain ⟨q, hq', rfl⟩ := List.mem_map.1 hq
  exact ⟨(hO o ho).s2, wlist_size hS (hO o ho).s0 q hq'⟩
theorem ObsAt.sizes {lo : Nat} {w : World} {ov : Value} {Os : List Ob} (h : ObsAt lo w ov Os) : ∀ o ∈ Os, ObSize o := by
  intro o ho
  obtain ⟨i, hi, rfl⟩ := List.getElem_of_mem ho
  rcases h with ⟨_, _, _, rfl⟩ | ⟨b, off, cap, h1, h2, h3, h4, h5, h6, h7⟩
  · simp at hi
  · exact (h7 i hi).1

set_option maxHeartbeats 1000000 in
theorem specUnder_same (lo : Nat) (v : Value) (Ts : List Tm) (a b : ByteArray) (w : World) (hv : TmsAt lo w v Ts) :
    Calls Tryz.prog 115 #[v, .string a, .string b] w fun e w' => e = .returned (.bool (underB Ts a b)) ∧ w' = w := by
  have HV := hide hv
  obtain ⟨ta, tcap, rfl⟩ := hv.form
  clear hv
  cases hab : (a.toList == b.toList) with
  | true =>
    go_enter Tryz.func115, Tryz.ntmps115
    go_wp2
    go_ret
    exact ⟨ret_bool (by simp [underB, hab]), rfl⟩
  | false =>
    have HU : Hid (underB Ts a b = underN Ts b 4 a) := by unfold Hid underB; rw [hab]; rfl
    go_enter Tryz.func115, Tryz.ntmps115
    go_wp2
    clear hab
    go_loopw [1, 7] (fun x n wr => ∃ (k : Nat) (a' : ByteArray), x = .string a' ∧ n = .int .i64 k ∧ k ≤ 4 ∧ underB Ts a b = underN Ts b (4 - k) a' ∧ wr = w) (fun _ n _ => 4 - (intOf n).toNat)
    case atStart => exact ⟨0, a, rfl, rfl, by omega, HU.out, rfl⟩
    case round =>
      obtain ⟨k, a', rfl, rfl, hk, hu, hb⟩ := hrel
      have HU := hide hu
      subst hb
      clear hu
      by_cases hlt : k < 4
      · have HS : Hid (underB Ts a b = if (ovB Ts a').toList.isEmpty then false else if (ovB Ts a').toList == b.toList then true else underN Ts b (4 - (k + 1)) (ovB Ts a')) := by
          unfold Hid
          rw [HU.out, show 4 - k = (4 - (k + 1)) + 1 from by omega]
          rfl
        clear HU
        go_wp2_with fail
        refine (l4Over_any lo _ Ts a' _ HV.out).mono ?_
        rintro e w1 ⟨rfl, rfl⟩
        cases he : (ovB Ts a').toList.isEmpty with
        | true =>
          have HR : Hid (underB Ts a b = false) := by unfold Hid; rw [HS.out, if_pos he]
          go_wp2
          go_ret
          exact ⟨ret_bool HR.out.symm, rfl⟩
        | false =>
          cases he2 : ((ovB Ts a').toList == b.toList) with
          | true =>
            have HR : Hid (underB Ts a b = true) := by unfold Hid; rw [HS.out, if_neg (by simp [he]), if_pos he2]
            go_wp2
            go_ret
            exact ⟨ret_bool HR.out.symm, rfl⟩
          | false =>
            have HR : Hid (underB Ts a b = underN Ts b (4 - (k + 1)) (ovB Ts a')) := by unfold Hid; rw [HS.out, if_neg (by simp [he]), if_neg (by simp [he2])]
            go_wp2
            go_roundw
            case rel => exact ⟨k + 1, _, rfl, by go_num, by omega, HR.out, trivial⟩
            case measure => simp [intOf]; omega
      · have HR : Hid (underB Ts a b = false) := by unfold Hid; rw [HU.out, show 4 - k = 0 from by omega]; rfl
        go_wp2
        go_ret
        exact ⟨ret_bool HR.out.symm, rfl⟩

section
variable (lo : Nat) (sv mv tv ov gv lv pv : Value) (Ss : List Sh) (Ms : List Md) (Ts : List Tm) (Os : List Ob) (now tick given : Int) (team r : ByteArray) (w : World)

set_option maxRecDepth 100000 in
set_option maxHeartbeats 2000000 in
theorem specUsed_any (h : LawAt lo w sv mv tv Ss Ms Ts) (hO : ObsAt lo w ov Os) (hn : ObsSmall Os) (ga : Option Addr) (gn gc : Nat) (la : Option Addr) (ln lc : Nat) (pa : Option Addr) (pn pc : Nat) :
    Calls Tryz.prog 112 #[.agg #[sv, mv, tv], .agg #[.int .i64 now, .int .i64 tick, .int .i64 given, ov, .slice ga gn gc, .slice la ln lc, .slice pa pn pc], .string team, .string r] w
      fun e w' => e = .returned (.int .i64 (wrap64 (usedZ Ss Ts Os team r))) ∧ Below w.heap.size w w' := by
  have HL := hide h
  have HO := hide hO
  obtain ⟨a, cap, rfl⟩ := h.shs.form
  obtain ⟨a1, cap1, rfl⟩ := h.mds.form
  obtain ⟨a2, cap2, rfl⟩ := h.tms.form
  obtain ⟨oa, ocap, rfl⟩ := hO.form
  have hm := hO.max
  unfold maxLen at hm
  clear h hO
  go_enter Tryz.func112, Tryz.ntmps112
  go_wp2_with fail
  obtain ⟨wz, hwz, HX, HY, HB⟩ : ∃ wz, wz = (w.alloc (.cells #[.slice a Ss.length cap, .slice a1 Ms.length cap1, .slice a2 Ts.length cap2] 43)).alloc (.cells #[.int .i64 now, .int .i64 tick, .int .i64 given, .slice oa Os.length ocap, .slice ga gn gc, .slice la ln lc, .slice pa pn pc] 50) ∧
      Hid (Box wz w.heap.size #[.slice a Ss.length cap, .slice a1 Ms.length cap1, .slice a2 Ts.length cap2]) ∧ Hid (Box wz (w.heap.size + 1) #[.int .i64 now, .int .i64 tick, .int .i64 given, .slice oa Os.length ocap, .slice ga gn gc, .slice la ln lc, .slice pa pn pc]) ∧ Hid (Below w.heap.size w wz) :=
    ⟨_, rfl, (Box.new _ _ _ _ rfl).on (one_al _ _), Box.new _ _ _ _ (by simp), (one_al _ _).trans ((one_al _ _).mono (by simp))⟩
  rw [← hwz]
  clear hwz
  go_loopw [9, 10] (fun n i wr => ∃ k : Nat, n = .int .i64 (wrap64 (usedZ Ss Ts (Os.take k) team r)) ∧ i = .int .i64 k ∧ k ≤ Os.length ∧ Below w.heap.size w wr ∧ Box wr w.heap.size #[.slice a Ss.length cap, .slice a1 Ms.length cap1, .slice a2 Ts.length cap2] ∧ Box wr (w.heap.size + 1) #[.int .i64 now, .int .i64 tick, .int .i64 given, .slice oa Os.length ocap, .slice ga gn gc, .slice la ln lc, .slice pa pn pc])
    (fun _ i _ => Os.length - (intOf i).toNat)
  case atStart => exact ⟨0, by simp [usedZ, wrap64], rfl, by omega, HB.out, HX.out, HY.out⟩
  case round =>
    obtain ⟨k, rfl, rfl, hk, hb, hx, hy⟩ := hrel
    have HBr := hide hb
    have HXr := hide hx
    have HYr := hide hy
    have y3 := hy.cell 3
    have x0 := hx.cell 0
    have x1 := hx.cell 1
    have x2 := hx.cell 2
    simp at y3 x0 x1 x2
    clear hb hx hy
    by_cases hlt : k < Os.length
    · obtain ⟨b, off, rfl, hbw, -, hc⟩ := HO.out.full' (by omega)
      obtain ⟨hs, vv0, vv1, hcell, hv0, hv1⟩ := hc k hlt
      obtain ⟨c0, c1, c2, c3, c4, c5, c6⟩ := hcell.below HBr.out hbw
      have HV := hide hv0.at
      have HH := hide hv1.at
      obtain ⟨va, vcap, rfl⟩ := hv0.at.form'
      obtain ⟨ha, hcap, rfl⟩ := hv1.at.form'
      have HN : Hid (Os[k].vs.length ≤ 1048576) := (hn.2 k hlt).1
      have HU := hide (usedZ_snoc Ss Ts (Os.take k) Os[k] team r)
      have HTK := hide (List.take_succ_eq_append_getElem hlt)
      have HC := hide hcell
      clear hc hcell hv0 hv1 hs
      go_wp2
      go_quiet ((go_at_call 115; exact Calls.quiet_of_same (specUnder_same lo _ Ts Os[k].tm team _ (HL.out.below (below_drewN HBr.out _)).tms)))
      have HBd : Hid (Below w.heap.size w (wr.drewN nq)) := below_drewN HBr.out _
      have HXd := hide (HXr.out.on (below_drewN (Below.refl _ _) nq))
      have HYd := hide (HYr.out.on (below_drewN (Below.refl _ _) nq))
      generalize wr.drewN nq = wd at *
      cases hu : underB Ts Os[k].tm team with
      | false =>
        have HE : Hid (usedZ Ss Ts (Os.take (k + 1)) team r = usedZ Ss Ts (Os.take k) team r) := by unfold Hid; rw [HTK.out, HU.out, hu]; simp
        go_wp2
        go_roundw
        case rel => exact ⟨k + 1, by rw [HE.out], by go_num, by omega, HBd.out, HXd.out, HYd.out⟩
        case measure => simp [intOf]; omega
      | true =>
        have HE : Hid (usedZ Ss Ts (Os.take (k + 1)) team r = usedZ Ss Ts (Os.take k) team r + weighV Ss Os[k].kd Os[k].vs r) := by unfold Hid; rw [HTK.out, HU.out, hu]; simp
        clear c0 c1 c2 c3 c4 c5 c6 x0 x1 x2 y3
        obtain ⟨c0, c1, c2, c3, c4, c5, c6⟩ := HC.out.below HBd.out hbw
        have y3 := HYd.out.cell 3
        have x0 := HXd.out.cell 0
        have x1 := HXd.out.cell 1
        have x2 := HXd.out.cell 2
        simp at y3 x0 x1 x2
        have HBD : Hid (Below w.heap.size w wd.drew) := HBd.out.drew
        go_wp2
        go_region_with (go_at_call 143; refine (specWeighs_any lo _ _ _ Ss Ms Ts Os[k].kd Os[k].nm Os[k].tm _ _ Os[k].en Os[k].ver Os[k].vs Os[k].hs r _ (HL.out.below HBD.out) (HV.out.below HBD.out) (HH.out.below HBD.out) HN.out).mono ?_; rintro e w2 ⟨rfl, hb2⟩; have hb3 : Hid (Below wd.heap.size wd w2) := ((Below.refl _ _).drew).trans hb2; clear hb2)
        all_goals go_wp2
        all_goals go_roundw
        all_goals first
          | (case rel => exact ⟨k + 1, by rw [HE.out, wrap_add], by go_num, by omega, HBd.out.trans (hb3.out.mono HBd.out.size), HXd.out.on hb3.out, HYd.out.on hb3.out⟩)
          | (case measure => simp [intOf]; omega)
    · have he : k = Os.length := by omega
      subst he
      have HE : Hid (usedZ Ss Ts (Os.take Os.length) team r = usedZ Ss Ts Os team r) := by unfold Hid; rw [List.take_length]
      go_wp2
      go_ret
      exact ⟨ret_int (by rw [HE.out]), HBr.out⟩

end
end Go.Proofs.YthfdfdlojfdckaaGreat

