import Derived.Test.YtmaagbnjpdijnaaVCLE
import Derived.Test.YtmaagbnjpdijnaaVBBL
import Derived.Test.YtmaagbnjpdijnaaVHX
import Derived.Lib.SliceRun
import Derived.Deep.RegionLaw
import Derived.Deep.RegionHeldLaw
import Derived.Laws.IdiomCopy
import Derived.Test.YtmaagbnjpdijnaaVDA
import Derived.Test.YtmaagbnjpdijnaaVTA
import Derived.Test.YtmaagbnjpdijnaaVOWX
import Derived.Test.YtmaagbnjpdijnaaVOXt
import Derived.Test.YtmaagbnjpdijnaaVA1
import Derived.Test.YtmaagbnjpdijnaaVBOG
import Derived.Test.YtmaagbnjpdijnaaVM2
namespace Go.Proofs.Ytmaagbnjpdijnaa
open Go.RowKit Go.Deep

theorem stopHereB {P : Prop} (h : Hid P) : P := h.out
theorem three_alB (X : World) (a b c : Obj) : Below X.heap.size X (((X.alloc a).alloc b).alloc c) := (((Below.refl _ _).alloc (Nat.le_refl _) _).alloc (by simp) _).alloc (by simp; omega) _

set_option maxHeartbeats 2000000 in
theorem l5RuleO_any (lo : Nat) (r : Ru) (vv : Value) (w : World) (hv : IntsIn lo w vv r.vb) (hn : r.vb.length ≤ 1048576) :
    Calls Try.prog 84 #[.agg #[vv, .string r.kd, .string r.tm, .string r.pf]] w fun e w' => ∃ v', e = .returned (.agg #[v', .string r.kd, .string r.tm, .string r.pf]) ∧ Below w.heap.size w w' ∧ IntsOwn w.heap.size w'.heap.size w' v' r.vb := by
  obtain ⟨i0, hi, hz0, hz1, hz2⟩ := info_parts Try.info3
  have HI := hide (And.intro hi (And.intro hz0 (And.intro hz1 hz2)))
  clear hi hz0 hz1 hz2
  have HV := hide hv
  obtain ⟨a, cap, rfl⟩ := hv.form
  clear hv
  cases a with
  | none =>
    have hL : r.vb = [] := by
      rcases HV.out with ⟨_, _, _, h⟩ | ⟨_, _, _, h, _⟩
      · exact h
      · injection h with h; cases h
    obtain ⟨vb, kd, tm, pf⟩ := r
    simp only [] at hL
    subst hL
    go_enter Try.func84, Try.ntmps84
    go_wp2
    refine bodyPost_ret (v := .agg #[.slice (some ⟨w.heap.size + 1 + 1, 0, none⟩) 0 0, .string kd, .string tm, .string pf]) (by simp [results, Try.results84, go_sem]) rfl ⟨_, rfl, three_alB _ _ _ _, Or.inl ⟨_, _, rfl, rfl⟩⟩
  | some ad =>
    go_enter Try.func84, Try.ntmps84
    go_wp2_with (at_builtin; apply stopHereB)
    unfold Hid
    (refine wpList_append_own_at _ rfl (.tmp 3) (.tmp 5) 87 rfl (w.heap.size + 2) 3 i0 (.int .i64 0) 1 8 Try.underlying87 HI.out.1 HI.out.2.1 HI.out.2.2.1 HI.out.2.2.2 rfl (by decide) _ 0 [] rfl (ownsB_made _ _ 3 1 (by simp) (by omega)) ad r.vb.length cap (ivO r.vb) rfl (by unfold ivO; rw [List.length_map, Nat.mul_one]) (HV.out.newsO (three_alB _ _ _ _)) (ivO_oneCell _) (by unfold maxLen; omega) (by omega) (by simp) ?_; intro v' w4 hown4 hgrow4 hnil4 hat4)
    rw [Nat.zero_add, List.nil_append] at hown4
    have hB : Below (w.heap.size + 2) _ w4 := ownsB_grown (ownsB_made _ (w.heap.size + 1 + 1) 3 1 (by simp) (by omega)) hgrow4 (by simp)
    have HO : Hid (IntsOwn (w.heap.size + 2) w4.heap.size w4 v' r.vb) := ownsB_ints hown4
    have HB : Hid (Below w.heap.size w w4) := (three_alB _ _ _ _).trans (hB.mono (by omega))
    have hz : w.heap.size + 1 < w4.heap.size := by have := hB.size; simp at this; omega
    have b1 : Box w4 w.heap.size #[.slice (some ad) r.vb.length cap, .string r.kd, .string r.tm, .string r.pf] := (((Box.new w _ 89 w.heap.size rfl).on (one_al _ _)).on (one_al _ _)).below hB (by omega)
    have b2 : Box w4 (w.heap.size + 1) #[.slice none 0 0, .string ⟨#[]⟩, .string ⟨#[]⟩, .string ⟨#[]⟩] := ((Box.new _ _ 89 (w.heap.size + 1) (by simp)).on (one_al _ _)).below hB (by omega)
    obtain ⟨a', cap', rfl⟩ := HO.out.form
    simp only []
    have c0 := b1.cell 0
    have c1 := b1.cell 1
    have c2 := b1.cell 2
    have c3 := b1.cell 3
    have d0 := b2.cell 0
    have d1 := b2.cell 1
    have d2 := b2.cell 2
    have d3 := b2.cell 3
    have f0 := b1.free
    have f1 := b2.free
    clear b1 b2 hown4 hB hgrow4 hnil4 hat4
    go_wp2
    refine bodyPost_ret (v := .agg #[.slice a' r.vb.length cap', .string r.kd, .string r.tm, .string r.pf]) (by simp [results, Try.results84, go_sem, d0, d1, d2, d3]) rfl ⟨_, rfl, ?_, ?_⟩
    · repeat (refine Below.setCell ?_ (by simp only []; omega) _)
      exact HB.out
    · refine IntsOwn.wide (lo := w.heap.size + 2) (hi := w4.heap.size) ?_ (by omega) (by simp [World.setCell])
      repeat (refine IntsOwn.setLow ?_ (by simp only []; omega) _)
      exact HO.out
end Go.Proofs.Ytmaagbnjpdijnaa

namespace Go.Proofs.Ytmaagbnjpdijnaa
open Go.RowKit Go.Deep

section
variable (lo : Nat) (ov gv lv pv : Value) (B : Bk) (w : World)

end
end Go.Proofs.Ytmaagbnjpdijnaa

namespace Go.Proofs.Ytmaagbnjpdijnaa
open Go.RowKit Go.Deep

/-! a ledger gets what a purse has -/
def freeL (Ls : List Le) (p : Nat) (am : Int) : List Le := match Ls[p]? with
  | some x => Ls.set p { x with fr := x.fr + am }
  | none => Ls
theorem freeL_at {Ls : List Le} {p : Nat} (h : p < Ls.length) (am : Int) : freeL Ls p am = Ls.set p { Ls[p] with fr := Ls[p].fr + am } := by
  unfold freeL
  rw [List.getElem?_eq_getElem h]
theorem freeL_len (Ls : List Le) (p : Nat) (am : Int) : (freeL Ls p am).length = Ls.length := by
  unfold freeL
  split
  · rw [List.length_set]
  · rfl
theorem LesOwn.frz {l0 l1 : Nat} {W : World} {b off cap : Nat} {Ls : List Le} (h : LesOwn l0 l1 W (.slice (some ⟨b, off, none⟩) Ls.length cap) Ls) (hp : 0 < Ls.length) : ∀ i, W.frozen? ⟨b, i, none⟩ = false := by
  rcases h with ⟨_, _, _, h⟩ | ⟨b', off', cap', c, X, h1, h2, h3, h4, h5, h6⟩
  · rw [h] at hp; simp at hp
  · injection h1 with e1 _ e3
    injection e1 with e1
    injection e1 with e1 e2
    subst e1 e2 e3
    exact h6.frz
theorem LesOwn.free {l0 l1 : Nat} {W : World} {b off cap : Nat} {Ls : List Le} (h : LesOwn l0 l1 W (.slice (some ⟨b, off, none⟩) Ls.length cap) Ls) {p : Nat} (hp : p < Ls.length) (am : Int) :
    LesOwn l0 l1 (W.setCell ⟨b, off + p * 4 + 3, none⟩ (.int .i64 (Ls[p].fr + am))) (.slice (some ⟨b, off, none⟩) Ls.length cap) (freeL Ls p am) ∧ Touch l0 l1 W (W.setCell ⟨b, off + p * 4 + 3, none⟩ (.int .i64 (Ls[p].fr + am))) := by
  rcases h with ⟨_, _, _, h⟩ | ⟨b', off', cap', c, X, h1, h2, h3, h4, h5, h6⟩
  · rw [h] at hp; simp at hp
  · injection h1 with e1 _ e3
    injection e1 with e1
    injection e1 with e1 e2
    subst e1 e2 e3
    have hx := h6.row p hp
    rw [h5 p hp] at hx
    obtain ⟨hz, hc⟩ := hx
    have hbc : b < c p := Nat.lt_of_lt_of_le h6.bc (h6.le (Nat.zero_le _) (by omega))
    have hst : LeSt W b (off + p * 4) (c p) (c (p + 1)) W Ls[p] := ⟨Near.refl _ _ _ _ _ _, hbc, hc, h6.frz, h6.lt⟩
    have hs3 := hst.s3 (Ls[p].fr + am)
    have hrow := h6.near hp hs3.near (show LeOne b (off + p * 4) (c p) (c (p + 1)) _ { Ls[p] with fr := Ls[p].fr + am } from ⟨⟨hz.s0, hz.s1⟩, hs3.cells⟩)
    refine ⟨Or.inr ⟨b, off, cap, c, _, by rw [freeL_len], ?_, by rw [freeL_len]; exact h3, by rw [freeL_len]; exact h4, fun i hi => ?_, by rw [freeL_len]; exact hrow⟩, hs3.near.wide h6.lt (by have := h6.low; omega) (Nat.le_trans (h6.le (by omega) (Nat.le_refl _)) h6.top) ⟨h6.low, h6.bh⟩⟩
    · intro e
      have := congrArg List.length e
      rw [freeL_len] at this
      exact h2 (List.length_eq_zero_iff.1 (by simpa using this))
    · have hi' : i < Ls.length := by rw [freeL_len] at hi; exact hi
      have e : (freeL Ls p am)[i] = (Ls.set p { Ls[p] with fr := Ls[p].fr + am })[i]'(by rw [List.length_set]; exact hi') := by
        have := freeL_at hp am
        simp only [this]
      rw [e, List.getElem_set]
      by_cases ei : i = p
      · subst ei; simp
      · rw [if_neg ei, if_neg (fun h => ei h.symm)]; exact h5 i hi'

end Go.Proofs.Ytmaagbnjpdijnaa

namespace Go.Proofs.Ytmaagbnjpdijnaa
open Go.RowKit Go.Deep Go.Lib

end Go.Proofs.Ytmaagbnjpdijnaa

namespace Go.Proofs.Ytmaagbnjpdijnaa
open Go.RowKit Go.Deep

end Go.Proofs.Ytmaagbnjpdijnaa

