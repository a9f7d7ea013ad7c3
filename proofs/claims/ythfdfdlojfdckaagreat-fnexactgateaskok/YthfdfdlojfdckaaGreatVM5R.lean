import Derived.Test.YthfdfdlojfdckaaGreatVLA
import Derived.Test.YthfdfdlojfdckaaGreatVTA
import Derived.Test.YthfdfdlojfdckaaGreatVBOG
import Derived.Test.YthfdfdlojfdckaaGreatVMM
import Derived.RangeFuncNested
import Derived.Test.YthfdfdlojfdckaaGreatVB1
namespace Go.Proofs.YthfdfdlojfdckaaGreat
open Go.RowKit Go.Deep Go.Maps

theorem wrap_add (a b : Int) : wrap64 (wrap64 a + b) = wrap64 (a + b) := by unfold wrap64; omega
theorem wrap_add2 (a b : Int) : wrap64 (wrap64 a + wrap64 b) = wrap64 (a + b) := by unfold wrap64; omega
/-- a team, a resource, and how much -/
abbrev Tri := ByteArray × ByteArray × Int
def TriOk (T : List Tri) : Prop := ∀ p ∈ T, p.1.size ≤ maxLen ∧ p.2.1.size ≤ maxLen
/-- what stands at a key -/
def ksum (T : List Tri) (a b : ByteArray) : Int := (T.map fun p => if (p.1 = a ∧ p.2.1 = b) then p.2.2 else 0).sum
theorem ksum_append (A B : List Tri) (a b : ByteArray) : ksum (A ++ B) a b = ksum A a b + ksum B a b := by simp [ksum]
theorem ksum_one (p : Tri) (a b : ByteArray) : ksum [p] a b = if (p.1 = a ∧ p.2.1 = b) then p.2.2 else 0 := by simp [ksum]
/-- a map that has the sums of a list -/
structure SumOk {H : Type} (T : List Tri) (D : DataW H) : Prop where
  isMap : IsMap D
  sums : ∀ a b : ByteArray, a.size ≤ maxLen → b.size ≤ maxLen → D.atKey (accL a b) (.lit (.int .i64 0)) = .lit (.int .i64 (wrap64 (ksum T a b)))
  has : ∀ p ∈ T, Maps.has D (accL p.1 p.2.1) = true
theorem isKey_acc (a b : ByteArray) : WideAt.IsKeyLit (accL a b) := trivial
theorem SumOk.start {H : Type} : SumOk [] (.map [] : DataW H) := ⟨⟨[], rfl⟩, fun a b _ _ => by simp [ksum, wrap64]; rfl, fun p hp => by cases hp⟩
theorem acc_ne {a b a' b' : ByteArray} (ha : a.size ≤ maxLen) (hb : b.size ≤ maxLen) (ha' : a'.size ≤ maxLen) (hb' : b'.size ≤ maxLen) (h : ¬ (a = a' ∧ b = b')) : accL a b ≠ accL a' b' := fun e => h (accTwo.inj accLaw ha hb ha' hb' e)
theorem SumOk.step {H : Type} {T : List Tri} {D : DataW H} (h : SumOk T D) {t r : ByteArray} (ht : t.size ≤ maxLen) (hr : r.size ≤ maxLen) {c : Int} (hat : D.atKey (accL t r) (.lit (.int .i64 0)) = .lit (.int .i64 c)) (n : Int) :
    SumOk (T ++ [(t, r, n)]) (D.put (accL t r) (.lit (.int .i64 (wrap64 (c + n))))) := by
  have hc := hat.symm.trans (h.sums t r ht hr)
  injection hc with hc
  injection hc with _ hc
  refine ⟨h.isMap.put _ _, fun a b ha hb => ?_, fun p hp => ?_⟩
  · by_cases e : t = a ∧ r = b
    · obtain ⟨rfl, rfl⟩ := e
      rw [atKey_put_same h.isMap (isKey_acc _ _), ksum_append, ksum_one, if_pos ⟨rfl, rfl⟩, hc, wrap_add]
    · rw [atKey_put_other (acc_ne ha hb ht hr (fun e' => e ⟨e'.1.symm, e'.2.symm⟩)), h.sums a b ha hb, ksum_append, ksum_one, if_neg e, Int.add_zero]
  · by_cases e : accL p.1 p.2.1 = accL t r
    · rw [e]
      exact has_put_same h.isMap (isKey_acc _ _) _
    · rw [has_put_other e]
      rcases List.mem_append.1 hp with hp | hp
      · exact h.has p hp
      · simp at hp
        subst hp
        exact absurd rfl e

/-- what of a resource stands under a team, but for what is still to come -/
def ugood (Ts : List Tm) (team r : ByteArray) (p : Tri) : Int := if (p.2.1.toList == r.toList && underB Ts p.1 team) = true then p.2.2 else 0
def usum (Ts : List Tm) (team r : ByteArray) (T : List Tri) (left : Lit → Bool) : Int := (T.map fun p => if left (accL p.1 p.2.1) = true then 0 else ugood Ts team r p).sum
theorem usum_start {H : Type} {T : List Tri} {D : DataW H} (h : SumOk T D) (Ts : List Tm) (team r : ByteArray) : usum Ts team r T (Maps.has D) = 0 := by
  have : ∀ L : List Tri, (∀ p ∈ L, Maps.has D (accL p.1 p.2.1) = true) → usum Ts team r L (Maps.has D) = 0 := by
    intro L
    induction L with
    | nil => intro _; rfl
    | cons p L ih =>
      intro hL
      have h1 := hL p (List.mem_cons_self ..)
      have h2 := ih (fun q hq => hL q (List.mem_cons_of_mem _ hq))
      unfold usum at h2 ⊢
      rw [List.map_cons, List.sum_cons, h2, if_pos h1]
      rfl
  exact this T h.has
theorem usum_end {left : Lit → Bool} (h : ∀ kl, left kl = false) (Ts : List Tm) (team r : ByteArray) (T : List Tri) : usum Ts team r T left = (T.map (ugood Ts team r)).sum := by
  unfold usum
  simp [h]
theorem usum_step (Ts : List Tm) (team r : ByteArray) {left : Lit → Bool} {a b : ByteArray} (ha : a.size ≤ maxLen) (hb : b.size ≤ maxLen) (hl : left (accL a b) = true) : ∀ (T : List Tri), TriOk T →
    usum Ts team r T (fun z => left z && !z.sameKey (accL a b)) = usum Ts team r T left + (if (b.toList == r.toList && underB Ts a team) = true then ksum T a b else 0)
  | [], _ => by simp [usum, ksum]
  | p :: T, hT => by
    have ih := usum_step Ts team r ha hb hl T (fun q hq => hT q (List.mem_cons_of_mem _ hq))
    obtain ⟨s1, s2⟩ := hT p (List.mem_cons_self ..)
    unfold usum ksum at ih ⊢
    simp only [List.map_cons, List.sum_cons]
    rw [ih]
    by_cases e : p.1 = a ∧ p.2.1 = b
    · obtain ⟨e1, e2⟩ := e
      have hs : (accL a b).sameKey (accL a b) = true := by unfold accL; simp [Lit.sameKey]
      unfold ugood
      simp only [hs, hl, Bool.not_true, Bool.and_false, Bool.false_eq_true, if_false, if_true, e1, e2, eq_self, and_self]
      cases hc : (b.toList == r.toList && underB Ts a team)
      · simp only [Bool.false_eq_true, if_false]; omega
      · simp only [if_true]; omega
    · have hs : (accL p.1 p.2.1).sameKey (accL a b) = false := sameKey_ne (acc_ne s1 s2 ha hb e)
      simp only [hs, Bool.not_false, Bool.and_true, if_neg e]
      cases hc : (b.toList == r.toList && underB Ts a team)
      · simp only [Bool.false_eq_true, if_false]; omega
      · simp only [if_true]; omega
/-- what objects are, each with its team -/
def wtrip (Ss : List Sh) (Os : List Ob) : List Tri := Os.flatMap fun o => (wlist Ss o.kd o.vs).map fun p => (o.tm, p.1, p.2)
theorem wtrip_snoc (Ss : List Sh) (A : List Ob) (o : Ob) : wtrip Ss (A ++ [o]) = wtrip Ss A ++ (wlist Ss o.kd o.vs).map fun p => (o.tm, p.1, p.2) := by simp [wtrip]
/-- how much of a resource all objects under a team are -/
def usedZ (Ss : List Sh) (Ts : List Tm) (Os : List Ob) (team r : ByteArray) : Int := (Os.map fun o => if underB Ts o.tm team = true then weighV Ss o.kd o.vs r else 0).sum
theorem ugood_list (Ts : List Tm) (team r t : ByteArray) (L : List (ByteArray × Int)) : ((L.map fun p => ((t, p.1, p.2) : Tri)).map (ugood Ts team r)).sum = if underB Ts t team = true then rsum r L else 0 := by
  induction L with
  | nil => simp [rsum]
  | cons p L ih =>
    rw [List.map_cons, List.map_cons, List.sum_cons, ih]
    unfold rsum ugood
    rw [List.map_cons, List.sum_cons]
    cases h1 : underB Ts t team <;> cases h2 : (p.1.toList == r.toList) <;> simp
theorem usedZ_trip (Ss : List Sh) (Ts : List Tm) (team r : ByteArray) (Os : List Ob) : ((wtrip Ss Os).map (ugood Ts team r)).sum = usedZ Ss Ts Os team r := by
  induction Os with
  | nil => rfl
  | cons o Os ih =>
    have e : wtrip Ss (o :: Os) = ((wlist Ss o.kd o.vs).map fun p => (o.tm, p.1, p.2)) ++ wtrip Ss Os := by simp [wtrip]
    rw [e, List.map_append, List.sum_append, ih, ugood_list, rsum_wlist]
    rfl
theorem usedZ_snoc (Ss : List Sh) (Ts : List Tm) (A : List Ob) (o : Ob) (team r : ByteArray) : usedZ Ss Ts (A ++ [o]) team r = usedZ Ss Ts A team r + (if underB Ts o.tm team = true then weighV Ss o.kd o.vs r else 0) := by simp [usedZ]
theorem wlist_len (Ss : List Sh) (kind : ByteArray) (V : List ByteArray) : (wlist Ss kind V).length ≤ V.length + 1 := by
  unfold wlist
  split
  · split
    · rename_i x _ _
      have := wpairs_len x.fields V V.length
      have h1 : (khead kind).length ≤ 1 := by unfold khead; split <;> simp
      rw [List.length_append]; omega
    · simp
  · simp
theorem wtrip_len (Ss : List Sh) : ∀ Os : List Ob, (∀ o ∈ Os, o.vs.length ≤ 1048576) → (wtrip Ss Os).length ≤ Os.length * 1048577
  | [], _ => by simp [wtrip]
  | o :: Os, h => by
    have ih := wtrip_len Ss Os (fun q hq => h q (List.mem_cons_of_mem _ hq))
    have h1 := h o (List.mem_cons_self ..)
    have h2 := wlist_len Ss o.kd o.vs
    have e : wtrip Ss (o :: Os) = ((wlist Ss o.kd o.vs).map fun p => (o.tm, p.1, p.2)) ++ wtrip Ss Os := by simp [wtrip]
    rw [e, List.length_append, List.length_map, List.length_cons]
    omega
end Go.Proofs.YthfdfdlojfdckaaGreat

namespace Go.Proofs.YthfdfdlojfdckaaGreat
open Go.RowKit Go.Deep Go.Shelf

/-- A region without a defer statement is in a round as it is elsewhere. -/
theorem anyIn_round {F : Fence} {n : Nat} {P : Program} {md : Region.Mode} {ops : Array Oper} {Q : Exit → Act → World → Prop} (l : Nat) (hnd : ∀ (i : Nat) (o : Oper), ops[i]? = some o → ∀ c, o.op ≠ .defer c) :
    ∀ (fuel : Nat) (listed : Array Bool) (a : Act) (w : World), wpAnyIn F n P md ops Q fuel listed a w → wpAnyIn (F.inRound l) n P md ops Q fuel listed a w
  | 0, _, _, _, h => h
  | fuel + 1, listed, a, w, ⟨h0, h1⟩ => ⟨h0, fun i hi => by
    have h2 := h1 i hi
    unfold wpOpIn at h2 ⊢
    split
    · rename_i e
      rw [e] at h2
      exact anyIn_round l hnd fuel _ _ _ h2
    · rename_i o e
      rw [e] at h2
      simp only at h2
      split
      · rename_i hw
        rw [if_pos hw] at h2
        have h3 := Oper.wpIn_mono (fun a w h => anyIn_round l hnd fuel _ a w h) h2
        obtain ⟨g1, g2⟩ := h3
        refine ⟨g1, ?_⟩
        rw [Oper.semAt_plain _ _ _ (hnd i o e)] at g2 ⊢
        exact g2
      · rename_i hw
        rw [if_neg hw] at h2
        exact ⟨h2.1, anyIn_round l hnd fuel _ _ _ h2.2⟩⟩
theorem region_round {F : Fence} {n : Nat} {P : Program} {id l : Nat} {ops : Array Oper} {Q : Exit → Act → World → Prop} {a : Act} {w : World} (hm : P.follows .mixedOrders = true) (hnd : ops.all (fun o => match o.op with | .defer _ => false | _ => true) = true)
    (h : wpAnyIn F n P .any ops Q ops.size (Array.replicate ops.size false) a w.drew) : (Code.region id ops true).wpIn (F.inRound l) n P Q a w := by
  refine wpIn_region_any hm (anyIn_round l (fun i o e c hc => ?_) _ _ _ _ h)
  have := Array.all_eq_true_iff_forall_mem.1 hnd o (Array.mem_of_getElem? e)
  rw [hc] at this
  cases this
end Go.Proofs.YthfdfdlojfdckaaGreat

