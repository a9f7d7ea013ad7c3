import Derived.Test.YtoklnkojacdciaaG38
import Derived.Deep.OwnRows
import Derived.Maps.Own
import Derived.Maps.Views
import Derived.WideKeyEntry
import Derived.DeepKeys4
import Derived.Maps.RangeWalk
import Derived.Maps.OwnOps
namespace Go.Proofs.Ytoklnkojacdciaa
open Go.RowKit Go.Deep Go.Maps Go.ChangeMaps Go.MapKept
open Go.WideElems (Fit)

theorem owns_same {H : Type} {P : Program} {w w' : World} {k : TypeId} {R : Value → Option (DataW H × List MemPlace)} {b n : Nat} {D : DataW H} (h : w.ownsMap P k R b n D) (hb : w'.heap[b]? = w.heap[b]?) : w'.ownsMap P k R b n D := by
  obtain ⟨es, clock, h1, h2, h3, h4⟩ := h
  exact ⟨es, clock, hb.trans h1, h2, h3, h4⟩

/-- 'm[k] += v': the entry is made or found, then stored into; the element may be asked for on either side of the first. -/
theorem entry_own {H : Type} {P : Program} {w : World} {t k e : TypeId} {q : IntKind} (L : WideMaps.KeyLaw P k) (ht : P.underlying t = some (.map k e)) (he : P.underlying e = some (.int q))
    (hz : ∀ u : World, (zeroValue e).run P u = .ok (.int q 0) u) {b n : Nat} {D : DataW H} (h : w.ownsMap P k (plainElem P e) b n D) (hn : n < maxLen) {key : Value} {kl : Lit} (hkey : keyOf P k key = some kl) :
    ∃ (c : Int) (v0 : Value) (st : Nat) (w1 : World), (Instr.mapEntry t (.map (some b)) key).run P w = .ok (.tuple #[v0, goInt st]) w1 ∧ D.atKey kl (.lit (.int q 0)) = .lit (.int q c) ∧ (Lit.int q c).wf = true ∧
      (Instr.lookup t (.map (some b)) key false).run P w = .ok (.int q c) w ∧ (Instr.lookup t (.map (some b)) key false).run P w1 = .ok (.int q c) w1 ∧ w.grownBy w1 (some b) ∧ w1.heap.size = w.heap.size ∧
      ∀ (val : Int), (Lit.int q val).wf = true → ∃ w2, (Instr.entryStore t (.map (some b)) (goInt st) (.int q val)).run P w1 = .ok () w2 ∧ w2.ownsMap P k (plainElem P e) b (n + 1) (D.put kl (.lit (.int q val))) ∧ w.grownBy w2 (some b) ∧ w2.heap.size = w.heap.size := by
  have K : Keyed P k := Keyed.of_law L
  have hw0 : (Lit.int q 0).wf = true := by cases q <;> decide
  obtain ⟨c, hl, hat, hwc⟩ := h.lookup_int K ht he (hz w) hkey
  have hup := h.update K ht hn hkey (plainElem_int (H := H) he hw0)
  have hups : ∀ val : Int, (Lit.int q val).wf = true → _ := fun val hv => h.update K ht hn hkey (plainElem_int (H := H) he hv)
  have h' := h
  obtain ⟨es, clock, hb, F, hs, hD⟩ := h
  obtain ⟨v0, st, es1, clock1, hrun, -, hst⟩ := WideElems.entry_then_store L ht hz hb F hkey
  have hone : (setBlock w b (.map es1 clock1)).heap[b]? = some (.map es1 clock1) := heap_setBlock_same hb _
  have hgr : ∀ o, w.grownBy (setBlock w b o) (some b) := fun o => ⟨rfl, rfl, rfl, by simp [setBlock], fun i _ hi => heap_setBlock_other hb _ (fun e => hi (by rw [e]))⟩
  have hlook : (Instr.lookup t (.map (some b)) key false).run P (setBlock w b (.map es1 clock1)) = .ok (.int q c) (setBlock w b (.map es1 clock1)) := by
    rcases L.find w hkey es.toList F.keys with ⟨h1, h2⟩ | ⟨j, e0, h1, h2, h3⟩
    · have hm : (Instr.mapEntry t (.map (some b)) key).run P w = .ok (.tuple #[.int q 0, goInt clock]) (setBlock w b (.map (es.push ⟨key, .int q 0, clock⟩) (clock + 1))) := by
        simp [Instr.mapEntry, run_underlying ht, MapKept.run_getObj_map hb, L.check w false hkey, h1, hz, MapKept.run_setObj_map _ hb, Result.andThen, setBlock]
      have hu : (Instr.mapUpdate t (.map (some b)) key (.int q 0)).run P w = .ok () (setBlock w b (.map (es.push ⟨key, .int q 0, clock⟩) (clock + 1))) := by
        simp [Instr.mapUpdate, run_underlying ht, MapKept.run_getObj_map hb, L.check w false hkey, h1, MapKept.run_setObj_map _ hb, Result.andThen, setBlock]
      obtain ⟨w', hr', ho', -⟩ := hup
      rw [hu] at hr'
      rw [hm] at hrun
      have e1 : setBlock w b (.map (es.push ⟨key, .int q 0, clock⟩) (clock + 1)) = setBlock w b (.map es1 clock1) := by injection hrun
      have e2 : setBlock w b (.map (es.push ⟨key, .int q 0, clock⟩) (clock + 1)) = w' := by injection hr'
      rw [← e2, e1] at ho'
      obtain ⟨c', hl', hat', -⟩ := ho'.lookup_int K ht he (hz _) hkey
      have hc0 : c = 0 := by
        have hlk : (Instr.lookup t (.map (some b)) key false).run P w = .ok (.int q 0) w := by
          simp [Instr.lookup, run_underlying ht, MapKept.run_getObj_map hb, L.check w _ hkey, h1, hz, Result.andThen]
        rw [hl] at hlk
        injection hlk with e
        injection e
      rw [atKey_put_same (by rw [hD]; exact ⟨_, rfl⟩) (K.key hkey)] at hat'
      have : c' = 0 := by
        injection hat' with e
        injection e with _ e
        exact e.symm
      rw [hc0, ← this]
      exact hl'
    · have hj : es[j]? = some e0 := by simpa using h2
      have hsame : es.modify j (fun e => { e with key := key }) = es := by
        apply Array.ext'
        rw [Array.toList_modify]
        apply List.ext_getElem?
        intro i
        rw [List.getElem?_modify]
        by_cases ij : j = i
        · subst ij
          rw [h2]
          simp [← h3]
        · simp [ij]
      have hm : (Instr.mapEntry t (.map (some b)) key).run P w = .ok (.tuple #[e0.val, goInt e0.born]) (setBlock w b (.map es clock)) := by
        simp [Instr.mapEntry, run_underlying ht, MapKept.run_getObj_map hb, L.check w false hkey, h1, hj, h3, L.stays w hkey, hsame, MapKept.run_setObj_map _ hb, Result.andThen, setBlock]
      rw [hm] at hrun
      have e1 : setBlock w b (.map es clock) = setBlock w b (.map es1 clock1) := by injection hrun
      have ho : (setBlock w b (.map es1 clock1)).ownsMap P k (plainElem P e) b n D := by
        rw [← e1]
        exact owns_same h' ((heap_setBlock_same hb _).trans hb.symm)
      obtain ⟨c', hl', hat', -⟩ := ho.lookup_int K ht he (hz _) hkey
      rw [hat] at hat'
      have : c = c' := by
        injection hat' with e
        injection e with _ e
      rw [this]
      exact hl'
  refine ⟨c, v0, st, _, hrun, hat, hwc, hl, hlook, hgr _, by simp [setBlock], fun val hv => ?_⟩
  obtain ⟨es', clock', hrs, hmu⟩ := hst _ (.int q val) hone
  obtain ⟨w', hr', ho', hg'⟩ := hups val hv
  rw [hmu] at hr'
  have e2 : setBlock w b (.map es' clock') = w' := by injection hr'
  refine ⟨_, hrs, owns_same ho' ?_, ?_, by simp [setBlock]⟩
  · rw [heap_setBlock_same hone, ← e2, heap_setBlock_same hb]
  · exact (hgr _).trans ⟨rfl, rfl, rfl, by simp [setBlock], fun i _ hi => heap_setBlock_other hone _ (fun e => hi (by rw [e]))⟩
theorem ranges_kept_below {w wr w1 : World} {r : Nat} (h : Below w.heap.size w wr) (hg : wr.grownBy w1 (some r)) (hr : w.heap.size ≤ r) : Below w.heap.size w w1 := by
  have hz := h.size
  exact h.trans ⟨hg.os, hg.tape, hg.output, hg.size, fun k hk => hg.block k (by omega) (fun e => by have := Option.some.inj e; omega)⟩
/-- a key of a number and a text -/
def ixL (n : Int) (a : ByteArray) : Lit := .string (keyBytes [.int .i64 n, .string a.data.toList])
structure NumKey (P : Program) (k : TypeId) : Prop where
  ex : ∃ f0 f1 : Field, P.underlying k = some (.struct #[f0, f1]) ∧ P.underlying f0.type = some (.int .i64) ∧ P.underlying f1.type = some .string ∧ P.cellsOf f0.type = 1 ∧ P.cellsOf f1.type = 1 ∧ f0.offset = 0 ∧ f1.offset = 1 ∧ f0.name ≠ "_" ∧ f1.name ≠ "_"
  ty : P.keyType k = true
  cs : P.cellsOf k = 2
  sz : 0 < P.types.size
theorem NumKey.mk' {P : Program} {k : TypeId} (h : NumKey P k) {n : Int} {b : ByteArray} (ha : (Lit.int .i64 n).wf = true) (hb : b.size ≤ maxLen) : keyOf P k (.agg #[.int .i64 n, .string b]) = some (ixL n b) := by
  obtain ⟨f0, f1, hu, h0, h1, k0, k1, o0, o1, n0, n1⟩ := h.ex
  obtain ⟨n, hn⟩ : ∃ n, P.types.size = n + 1 := ⟨P.types.size - 1, by have := h.sz; omega⟩
  simp [keyOf, hu, h.ty, Value.formed, h.cs, hn, Program.keyLits, h0, h1, k0, k1, Value.cells, ha, hb, ixL, o0, o1, n0, n1]
theorem NumKey.wide {P : Program} {k : TypeId} (h : NumKey P k) : (match P.underlying k with | some (.array _ _) | some (.struct _) => true | _ => false) = true := by
  obtain ⟨f0, f1, hu, -⟩ := h.ex
  rw [hu]
theorem NumKey.inj {P : Program} {k : TypeId} (h : NumKey P k) (K : WideMaps.KeyLaw P k) {n n' : Int} {b b' : ByteArray} (ha : (Lit.int .i64 n).wf = true) (hb : b.size ≤ maxLen) (ha' : (Lit.int .i64 n').wf = true) (hb' : b'.size ≤ maxLen) (e : ixL n b = ixL n' b') : n = n' ∧ b = b' := by
  have e := K.inj (h.mk' ha hb) (e ▸ h.mk' ha' hb')
  simpa using e
theorem slNum : NumKey Try.prog 114 :=
  ⟨⟨_, _, Try.underlying114, by kernel_rfl, by kernel_rfl, by kernel_rfl, by kernel_rfl, rfl, rfl, by decide, by decide⟩, by kernel_rfl, by kernel_rfl, of_decide_eq_true (by kernel_rfl)⟩
theorem slLaid : laidOutB Try.prog = true := by kernel_rfl
theorem slRow : (114 : TypeId) < Try.prog.types.size := of_decide_eq_true (by kernel_rfl)
theorem slAt : Try.prog.keyTypeAt 2 114 = true := by kernel_rfl
set_option maxRecDepth 100000 in
theorem slLaw : WideMaps.KeyLaw Try.prog 114 := deep_law_laid slLaid (by decide) slRow slAt slNum.wide
theorem slZero (w : World) : (zeroValue 3).run Try.prog w = .ok (.int .i64 0) w := by kernel_rfl
theorem isKey_sl (n : Int) (a : ByteArray) : WideAt.IsKeyLit (ixL n a) := trivial
theorem sl_wf {n : Int} (h0 : 0 ≤ n) (h1 : n ≤ 1000000) : (Lit.int .i64 n).wf = true := by
  have e1 : IntKind.i64.min = -9223372036854775808 := by decide
  have e2 : IntKind.i64.max = 9223372036854775807 := by decide
  show (decide (IntKind.i64.min ≤ n) && decide (n ≤ IntKind.i64.max)) = true
  rw [e1, e2, Bool.and_eq_true, decide_eq_true_iff, decide_eq_true_iff]
  omega
theorem sl_ne {n n' : Int} {b b' : ByteArray} (h0 : 0 ≤ n) (h1 : n ≤ 1000000) (h0' : 0 ≤ n') (h1' : n' ≤ 1000000) (hb : b.size ≤ maxLen) (hb' : b'.size ≤ maxLen) (h : ¬ (n = n' ∧ b = b')) : ixL n b ≠ ixL n' b' := fun e =>
  h (slNum.inj slLaw (sl_wf h0 h1) hb (sl_wf h0' h1') hb' e)

/-! how often a slot stands among some -/
def ct (T : List Rs) (n : Int) (a : ByteArray) : Nat := T.countP fun s => decide (s.ba = n ∧ s.tx = a)
theorem ct_append (A B : List Rs) (n : Int) (a : ByteArray) : ct (A ++ B) n a = ct A n a + ct B n a := List.countP_append ..
theorem ct_one (s : Rs) (n : Int) (a : ByteArray) : ct [s] n a = if s.ba = n ∧ s.tx = a then 1 else 0 := by
  unfold ct
  by_cases h : s.ba = n ∧ s.tx = a
  · rw [if_pos h, List.countP_cons_of_pos (by simpa using h)]; rfl
  · rw [if_neg h, List.countP_cons_of_neg (by simpa using h)]; rfl
theorem ct_le (T : List Rs) (n : Int) (a : ByteArray) : ct T n a ≤ T.length := List.countP_le_length
theorem ct_two {n n' : Int} {a a' : ByteArray} (h : ¬ (n = n' ∧ a = a')) : ∀ T : List Rs, ct T n a + ct T n' a' ≤ T.length
  | [] => by simp [ct]
  | s :: T => by
    have ih := ct_two h T
    rw [show s :: T = [s] ++ T from rfl, ct_append, ct_append, ct_one, ct_one, List.length_append]
    by_cases h1 : s.ba = n ∧ s.tx = a
    · rw [if_pos h1, if_neg (fun h2 => h ⟨h1.1.symm.trans h2.1, h1.2.symm.trans h2.2⟩)]
      simp only [List.length_singleton]; omega
    · rw [if_neg h1]
      by_cases h2 : s.ba = n' ∧ s.tx = a'
      · rw [if_pos h2]; simp only [List.length_singleton]; omega
      · rw [if_neg h2]; simp only [List.length_singleton]; omega
structure CntOk (T : List Rs) (D : DataW Unit) : Prop where
  isMap : IsMap D
  sums : ∀ (n : Int) (a : ByteArray), 0 ≤ n → n ≤ 1000000 → a.size ≤ maxLen → D.atKey (ixL n a) (.lit (.int .i64 0)) = .lit (.int .i64 (ct T n a))
theorem CntOk.start : CntOk [] (.map [] : DataW Unit) := ⟨⟨[], rfl⟩, fun _ _ _ _ _ => rfl⟩
theorem CntOk.step {T : List Rs} {D : DataW Unit} (h : CntOk T D) {s : Rs} (h0 : 0 ≤ s.ba) (h1 : s.ba ≤ 1000000) (h2 : s.tx.size ≤ maxLen) :
    CntOk (T ++ [s]) (D.put (ixL s.ba s.tx) (.lit (.int .i64 ((ct T s.ba s.tx : Int) + 1)))) := by
  refine ⟨h.isMap.put _ _, fun n a g0 g1 g2 => ?_⟩
  rw [ct_append, ct_one]
  by_cases e : s.ba = n ∧ s.tx = a
  · obtain ⟨e1, e2⟩ := e
    rw [if_pos ⟨e1, e2⟩, ← e1, ← e2, atKey_put_same h.isMap (isKey_sl _ _)]
    simp
  · rw [if_neg e, atKey_put_other (sl_ne g0 g1 h0 h1 g2 h2 (fun e' => e ⟨e'.1.symm, e'.2.symm⟩)), h.sums n a g0 g1 g2, Nat.add_zero]

/-! what most have at a place -/
def slotAt (x : Rr) (ix : Int) : Option Rs := if 1 ≤ ix then x.sf.sl[(ix - 1).toNat]? else none
def slotsOf (R : List Rr) (ix : Int) : List Rs := R.filterMap fun x => slotAt x ix
def majB (R : List Rr) (ix : Int) (s : Rs) : Bool := decide (s.ba ≠ 0) && decide (R.length < 2 * ct (slotsOf R ix) s.ba s.tx)
def majR (R : List Rr) (ix : Int) : Option ByteArray := ((slotsOf R ix).find? (majB R ix)).map (·.tx)
theorem slots_len (R : List Rr) (ix : Int) : (slotsOf R ix).length ≤ R.length := List.length_filterMap_le ..
theorem slots_snoc (R : List Rr) (ix : Int) (x : Rr) : slotsOf (R ++ [x]) ix = slotsOf R ix ++ (slotAt x ix).toList := by
  unfold slotsOf
  rw [List.filterMap_append]
  congr 1
theorem slots_take {R : List Rr} {ix : Int} {k : Nat} (hk : k < R.length) : slotsOf (R.take (k + 1)) ix = slotsOf (R.take k) ix ++ (slotAt R[k] ix).toList := by
  rw [List.take_succ_eq_append_getElem hk, slots_snoc]
theorem slots_split (R : List Rr) (ix : Int) (k : Nat) : slotsOf R ix = slotsOf (R.take k) ix ++ slotsOf (R.drop k) ix := by
  conv => lhs; rw [← List.take_append_drop k R]
  exact List.filterMap_append ..
theorem maj_some {R : List Rr} {ix : Int} {s : Rs} (hs : s ∈ slotsOf R ix) (h : majB R ix s = true) : majR R ix = some s.tx := by
  unfold majR
  cases hf : (slotsOf R ix).find? (majB R ix) with
  | none => exact absurd h (by have := List.find?_eq_none.1 hf s hs; simpa using this)
  | some t =>
    have ht := List.find?_some hf
    unfold majB at h ht
    rw [Bool.and_eq_true, decide_eq_true_iff, decide_eq_true_iff] at h ht
    by_cases e : s.ba = t.ba ∧ s.tx = t.tx
    · rw [Option.map_some, e.2]
    · have := ct_two e (slotsOf R ix)
      have := slots_len R ix
      omega
theorem maj_none {R : List Rr} {ix : Int} (h : ∀ s ∈ slotsOf R ix, majB R ix s = false) : majR R ix = none := by
  unfold majR
  rw [List.find?_eq_none.2 (fun s hs => by rw [h s hs]; simp)]
  rfl
/-- nobody has come to more than half so far -/
def noHit (T : List Rs) (n : Nat) : Prop := ∀ j (h : j < T.length), ¬ (0 < T[j].ba ∧ n < 2 * ct (T.take (j + 1)) T[j].ba T[j].tx)
theorem noHit.snoc {T : List Rs} {n : Nat} {s : Rs} (h : noHit T n) (hs : ¬ (0 < s.ba ∧ n < 2 * ct (T ++ [s]) s.ba s.tx)) : noHit (T ++ [s]) n := fun j hj => by
  by_cases e : j < T.length
  · rw [List.getElem_append_left e, List.take_append_of_le_length (by omega)]
    exact h j e
  · have ej : j = T.length := by simp at hj; omega
    subst ej
    rw [List.getElem_concat_length (by rfl), List.take_of_length_le (by simp)]
    exact hs
theorem last_hit {T : List Rs} {n : Int} {a : ByteArray} : ∀ m, m ≤ T.length → 0 < ct (T.take m) n a → ∃ j, ∃ h : j < T.length, T[j].ba = n ∧ T[j].tx = a ∧ ct (T.take (j + 1)) n a = ct (T.take m) n a
  | 0, _, h => by simp [ct] at h
  | m + 1, hm, h => by
    have e := List.take_succ_eq_append_getElem (show m < T.length by omega)
    by_cases hs : T[m].ba = n ∧ T[m].tx = a
    · exact ⟨m, by omega, hs.1, hs.2, rfl⟩
    · have hc : ct (T.take (m + 1)) n a = ct (T.take m) n a := by rw [e, ct_append, ct_one, if_neg hs, Nat.add_zero]
      rw [hc] at h ⊢
      exact last_hit m (by omega) h
theorem noHit.none {R : List Rr} {ix : Int} (h : noHit (slotsOf R ix) R.length) (h0 : ∀ s ∈ slotsOf R ix, 0 ≤ s.ba) : majR R ix = none := maj_none fun s hs => by
  cases q : majB R ix s with
  | false => rfl
  | true =>
    unfold majB at q
    rw [Bool.and_eq_true, decide_eq_true_iff, decide_eq_true_iff] at q
    have hc : 0 < ct ((slotsOf R ix).take (slotsOf R ix).length) s.ba s.tx := by rw [List.take_length]; omega
    obtain ⟨j, hj, e1, e2, e3⟩ := last_hit _ (Nat.le_refl _) hc
    rw [List.take_length] at e3
    have := h j hj
    rw [e1, e2, e3] at this
    have h1 := h0 s hs
    exact absurd ⟨by omega, q.2⟩ this
theorem hit_some {R : List Rr} {ix : Int} {k : Nat} {s : Rs} {T : List Rs} (hT : slotsOf (R.take k) ix = T ++ [s]) (h0 : 0 < s.ba) (h : R.length < 2 * ct (T ++ [s]) s.ba s.tx) : majR R ix = some s.tx := by
  have e := slots_split R ix k
  rw [hT] at e
  refine maj_some (by rw [e]; simp) ?_
  unfold majB
  rw [e, ct_append, Bool.and_eq_true, decide_eq_true_iff, decide_eq_true_iff]
  exact ⟨by omega, by omega⟩
def majV (o : Option ByteArray) : Array Value := match o with
  | some t => #[.string t, .bool true]
  | none => #[.string ⟨#[]⟩, .bool false]
end Go.Proofs.Ytoklnkojacdciaa
namespace Go.Proofs.Ytoklnkojacdciaa
open Go.RowKit Go.Deep Go.Maps Go.ChangeMaps Go.MapKept

def SafeOk (R : List Rr) : Prop := R.length ≤ 5 ∧ ∀ x ∈ R, x.sf.sl.length ≤ 120 ∧ ∀ s ∈ x.sf.sl, 0 ≤ s.ba ∧ s.ba ≤ 1000000
theorem SafeOk.slots {R : List Rr} (h : SafeOk R) {ix : Int} : ∀ s ∈ slotsOf R ix, 0 ≤ s.ba := fun s hs => by
  unfold slotsOf at hs
  obtain ⟨x, hx, hxs⟩ := List.mem_filterMap.1 hs
  unfold slotAt at hxs
  split at hxs
  · exact ((h.2 x hx).2 s (List.mem_of_getElem? hxs)).1
  · cases hxs
theorem slotAt_no {x : Rr} {ix : Int} (h : inB 1 (x.sf.sl.length : Int) ix = false) : slotAt x ix = none := by
  unfold slotAt
  split
  · rename_i h1
    rw [List.getElem?_eq_none]
    unfold inB at h
    have := of_decide_eq_false h
    omega
  · rfl
theorem slotAt_yes {x : Rr} {p : Nat} (h : p < x.sf.sl.length) : slotAt x ((p : Int) + 1) = some x.sf.sl[p] := by
  unfold slotAt
  rw [if_pos (by omega), show ((p : Int) + 1 - 1).toNat = p by omega, List.getElem?_eq_getElem h]
theorem owns_below {H : Type} {P : Program} {w w' : World} {k : TypeId} {R : Value → Option (DataW H × List MemPlace)} {b n m : Nat} {D : DataW H} (h : w.ownsMap P k R b n D) (hb : Below m w w') (hl : b < m) : w'.ownsMap P k R b n D :=
  owns_same h (hb.block b hl)

set_option maxRecDepth 100000 in
set_option maxHeartbeats 8000000 in
theorem majI_any (lo : Nat) (v : Value) (R : List Rr) (ix : Int) (w : World) (hv : RrsAt lo w v R) (hok : SafeOk R) :
    Calls Try.prog 45 #[v, .int .i64 ix] w fun e w' => e = .returned (.tuple (majV (majR R ix))) ∧ Below w.heap.size w w' := by
  have HV := hide hv
  have HOK := hide hok
  have hn5 := hok.1
  obtain ⟨a, cap, rfl⟩ := hv.form
  obtain ⟨n, hn⟩ : ∃ n, n = R.length := ⟨_, rfl⟩
  rw [← hn] at hn5 ⊢
  have HNN := hide hn
  clear hv hok hn
  have hmm := @run_makeMap Try.prog
  go_enter Try.func45, Try.ntmps45
  go_wp2
  clear hmm
  go_loopw [13] (fun i wr => ∃ k : Nat, i = .int .i64 k ∧ k ≤ n ∧ Below w.heap.size w wr ∧ ∃ (D : DataW Unit) (c : Nat), c ≤ k ∧ wr.ownsMap Try.prog 114 (plainElem Try.prog 3) w.heap.size c D ∧ CntOk (slotsOf (R.take k) ix) D ∧ noHit (slotsOf (R.take k) ix) n) (fun i _ => n - (intOf i).toNat)
  case atStart => exact ⟨0, rfl, Nat.zero_le _, one_al _ _, .map [], 0, Nat.le_refl _, World.ownsMap_made _ _ _ _, CntOk.start, fun j hj => by simp [slotsOf] at hj⟩
  case round =>
    obtain ⟨k, rfl, hk, hb, D, q, hqk, ho, hcnt, hno⟩ := hrel
    have HBr := hide hb
    have HCN := hide hcnt
    have HNH := hide hno
    have HO := hide ho
    have hol : w.heap.size < wr.heap.size := ho.lt
    clear hb hcnt hno ho
    by_cases hlt : k < n
    · have hkl : k < R.length := by rw [← HNN.out]; exact hlt
      obtain ⟨b, off, rfl, hbw, -, hc⟩ := HV.out.full' (by omega)
      obtain ⟨cs, hr, hx⟩ := hc k hkl
      have HTK : Hid (slotsOf (R.take (k + 1)) ix = slotsOf (R.take k) ix ++ (slotAt R[k] ix).toList) := slots_take hkl
      have HXO : Hid (R[k].sf.sl.length ≤ 120 ∧ ∀ s ∈ R[k].sf.sl, 0 ≤ s.ba ∧ s.ba ≤ 1000000) := HOK.out.2 _ (List.getElem_mem hkl)
      obtain ⟨x, hxx⟩ : ∃ x, x = R[k] := ⟨_, rfl⟩
      rw [← hxx] at hx HTK HXO
      have HX := hide (hx.below HBr.out)
      have HR := hide (rng_below hr HBr.out hbw)
      have HLN : Hid (cs.length = 18) := hx.len
      have HL8 : Hid (cs.toArray.size = 18) := hx.len
      have HON : Hid (cs.toArray.all (·.oneCell') = true) := hx.one
      obtain ⟨a0, k0, hcs5, hrs⟩ : ∃ a0 k0, cs[5]? = some (.slice a0 x.sf.sl.length k0) ∧ RssAt lo wr (.slice a0 x.sf.sl.length k0) x.sf.sl := by
        obtain ⟨a0, k0, a1, k1, a2, k2, a3, k3, a4, k4, a5, k5, a6, k6, hcs, h⟩ := HX.out
        exact ⟨a0, k0, by rw [hcs]; rfl, h.l0⟩
      have HC5 := hide hcs5
      have HRS := hide hrs
      have i0 : (0 : Int) ≤ (k : Int) := by omega
      have i1 : (k : Int) < (n : Int) := by omega
      clear hc hxx hr hx hcs5 hrs
      have HSy0 : Hid ((Try.prog.info? 51).map (·.size) = some cs.length) := by unfold Hid; rw [HLN.out]; exact Rr_sizeI
      have HSz0 : Hid ((Try.prog.info? 51).map (·.size) = some cs.toArray.size) := by unfold Hid; rw [HL8.out]; exact Rr_sizeI
      have HTH : Hid (World.there (wr.alloc (.cells #[.int .i64 0, .int .i64 0, .bool false, .int .i64 0, .int .i64 0, .slice none 0 0, .int .i64 0, .int .i64 0, .slice none 0 0, .slice none 0 0, .slice none 0 0, .bool false, .bool false, .int .i64 0, .slice none 0 0, .slice none 0 0, .slice none 0 0, .int .i64 0] 51)) wr.heap.size 0 cs.toArray.size) := by unfold Hid; rw [HL8.out]; exact (Box.new _ _ _ _ rfl).there rfl
      go_wp2_with (first
        | (with_reducible refine wpList_load_mid (by with_reducible rfl) 51 (.tmp 15) (by with_reducible rfl) b (off + k * 18) (by with_unfolding_all rfl) cs _ HR.out Try.underlying51 (by with_unfolding_all rfl) HSy0.out ?_)
        | (with_reducible refine wpList_store_mid (by with_reducible rfl) 51 (.tmp 8) (.tmp 16) (by with_reducible rfl) wr.heap.size 0 cs.toArray (by with_unfolding_all rfl) (by with_unfolding_all rfl) HTH.out HSz0.out HON.out ?_; refine Hid.out ?_))
      generalize hWb : World.setCells _ _ _ _ = Wb
      have HBx : Hid (Below wr.heap.size wr Wb) := by unfold Hid; rw [← hWb]; exact Below.sets (Nat.le_refl _) _ _ (one_al _ _)
      have BX : Hid (Box Wb wr.heap.size cs.toArray) := by unfold Hid; rw [← hWb]; exact (Box.new _ _ _ _ rfl).full (by rw [HL8.out]; rfl)
      clear hWb HTH HSz0 HR
      refine hide ?_
      have c5 : Wb.cell? ⟨wr.heap.size, 5, none⟩ = some (.slice a0 x.sf.sl.length k0) := by rw [BX.out.cell 5]; simpa using HC5.out
      replace HO := hide (owns_below HO.out HBx.out hol)
      replace HRS := hide (HRS.out.below HBx.out)
      have HBb : Hid (Below w.heap.size w Wb) := bt HBr.out HBx.out
      have hwl : w.heap.size < Wb.heap.size := Nat.lt_of_lt_of_le hol HBx.out.size
      have hx120 := HXO.out.1
      clear BX HC5 HX HLN HL8 HON HSy0
      cases q1 : inB 1 (x.sf.sl.length : Int) ix with
      | false =>
        have HT : Hid (slotsOf (R.take (k + 1)) ix = slotsOf (R.take k) ix) := by unfold Hid; rw [HTK.out, slotAt_no q1]; simp
        go_wp2_with (go_at_call 22; refine (within_any _ _ _ _).mono ?_; rw [q1]; rintro e Wb ⟨rfl, rfl⟩)
        go_roundw
        case rel => exact ⟨k + 1, by go_num, by omega, HBb.out, D, q, by omega, HO.out, by rw [HT.out]; exact HCN.out, by rw [HT.out]; exact HNH.out⟩
        case measure => simp [intOf]; omega
      | true =>
        obtain ⟨p, hp, hpl⟩ : ∃ p : Nat, ix = (p : Int) + 1 ∧ p < x.sf.sl.length := by
          unfold inB at q1
          have := of_decide_eq_true q1
          exact ⟨(ix - 1).toNat, by omega, by omega⟩
        subst hp
        have HT : Hid (slotsOf (R.take (k + 1)) ((p : Int) + 1) = slotsOf (R.take k) ((p : Int) + 1) ++ [x.sf.sl[p]]) := by unfold Hid; rw [HTK.out, slotAt_yes hpl]; rfl
        obtain ⟨g, og, rfl, hgw, -, hcg⟩ := HRS.out.full' (by omega)
        obtain ⟨hsz, hcz⟩ := hcg p hpl
        have hs0 := (HXO.out.2 _ (List.getElem_mem hpl)).1
        have hs1 := (HXO.out.2 _ (List.getElem_mem hpl)).2
        obtain ⟨s, hs⟩ : ∃ s, s = x.sf.sl[p] := ⟨_, rfl⟩
        rw [← hs] at hsz hcz hs0 hs1 HT
        clear hs hcg
        have d0 : Wb.cell? ⟨g, og + p * 2, none⟩ = some (.int .i64 s.ba) := hcz.c0
        have d1 : Wb.cell? ⟨g, og + p * 2 + 1, none⟩ = some (.string s.tx) := hcz.c1
        have hsx : s.tx.size ≤ maxLen := hsz.s0
        have HSX := hide hsx
        unfold maxLen at hsx
        obtain ⟨T, hT⟩ : ∃ T, T = slotsOf (R.take k) ((p : Int) + 1) := ⟨_, rfl⟩
        rw [← hT] at HCN HNH HT
        have hTl : T.length ≤ 5 := by rw [hT]; have := slots_len (R.take k) ((p : Int) + 1); rw [List.length_take] at this; omega
        have hct := ct_le T s.ba s.tx
        clear hT hcz hsz
        have j0 : (0 : Int) ≤ (p : Int) := by omega
        have j1 : (p : Int) < (x.sf.sl.length : Int) := by omega
        have jn : IntKind.i64.wrap ((p : Int) + 1 - 1) = (p : Int) := by rw [IntWalk.i64_left]; unfold wrap64; omega
        obtain ⟨Wc, hWc, HYc, HBc, HOc⟩ : ∃ Wc, Wc = Wb.alloc (.cells #[.int .i64 s.ba, .string s.tx] 114) ∧ Hid (Box Wc Wb.heap.size #[.int .i64 s.ba, .string s.tx]) ∧ Hid (Below w.heap.size w Wc) ∧ Hid (Wc.ownsMap Try.prog 114 (plainElem Try.prog 3) w.heap.size q D) := ⟨_, rfl, Box.new _ _ _ _ rfl, bt HBb.out (one_al _ _), owns_below HO.out (one_al _ _) hwl⟩
        obtain ⟨c, v0, st, w1, hent, hat, hwc, hl0, hl1, hg1, hs1', hst⟩ := entry_own slLaw Try.underlying115 Try.underlying3 slZero HOc.out.drew (by unfold maxLen; omega) (slNum.mk' (sl_wf hs0 hs1) HSX.out)
        have hcc : c = (ct T s.ba s.tx : Int) := by
          have := hat.symm.trans (HCN.out.sums s.ba s.tx hs0 hs1 HSX.out)
          injection this with this
          injection this
        subst hcc
        have ew : IntKind.i64.wrap ((ct T s.ba s.tx : Int) + 1) = (ct T s.ba s.tx : Int) + 1 := by rw [IntWalk.i64_left]; unfold wrap64; omega
        obtain ⟨w2, hrun2, ho2, hg2, hs2⟩ := hst ((ct T s.ba s.tx : Int) + 1) (sl_wf (by omega) (by omega))
        obtain ⟨c2, hl2, hat2, -⟩ := ho2.lookup_int (Keyed.of_law slLaw) Try.underlying115 Try.underlying3 (slZero _) (slNum.mk' (sl_wf hs0 hs1) HSX.out)
        have HCN2 := hide (HCN.out.step hs0 hs1 HSX.out)
        have hc2 : c2 = (ct T s.ba s.tx : Int) + 1 := by
          rw [atKey_put_same HCN.out.isMap (isKey_sl _ _)] at hat2
          injection hat2 with e
          injection e with _ e
          exact e.symm
        subst hc2
        have HO2 := hide ho2
        have HB2 : Hid (Below w.heap.size w w2) := ranges_kept_below HBc.out.drew hg2 (Nat.le_refl _)
        have y0 := HYc.out.cell 0
        have y1 := HYc.out.cell 1
        have z0 : w2.cell? ⟨Wb.heap.size, 0, none⟩ = some (.int .i64 s.ba) := (World.cell?_of_block (w := Wc.drew) (hg2.5 Wb.heap.size HYc.out.lt (fun e => by injection e with e; omega))).trans (HYc.out.cell 0)
        have z1 : w2.cell? ⟨Wb.heap.size, 1, none⟩ = some (.string s.tx) := (World.cell?_of_block (w := Wc.drew) (hg2.5 Wb.heap.size HYc.out.lt (fun e => by injection e with e; omega))).trans (HYc.out.cell 1)
        simp at y0 y1
        simp only [goInt] at hent hrun2
        clear hst ho2 hg1 hg2 hat hat2 hs1' hs2 hwc
        go_wp2_with (go_at_call 22; refine (within_any _ _ _ _).mono ?_; rw [q1]; rintro e Wb ⟨rfl, rfl⟩)
        rw [← hWc]
        clear hWc
        have m2 : IntKind.i64.wrap (2 * ((ct T s.ba s.tx : Int) + 1)) = 2 * ((ct T s.ba s.tx : Int) + 1) := by rw [IntWalk.i64_left]; unfold wrap64; omega
        by_cases hh : 0 < s.ba ∧ (n : Int) < 2 * ((ct T s.ba s.tx : Int) + 1)
        · have q2 := hh.1
          have q3 := hh.2
          have HE : Hid (majR R ((p : Int) + 1) = some s.tx) := hit_some HT.out q2 (by rw [ct_append, ct_one, if_pos ⟨rfl, rfl⟩, ← HNN.out]; omega)
          clear hh
          go_region
          all_goals go_wp2
          all_goals exact bodyPost_ret (v := .tuple #[.string s.tx, .bool true]) (by simp [results, Try.results45, go_sem]) rfl ⟨by rw [HE.out]; rfl, HB2.out⟩
        · have HN2 : Hid (noHit (slotsOf (R.take (k + 1)) ((p : Int) + 1)) n) := by
            unfold Hid
            rw [HT.out]
            refine HNH.out.snoc (fun h => hh ⟨h.1, ?_⟩)
            have := h.2
            rw [ct_append, ct_one, if_pos ⟨rfl, rfl⟩] at this
            omega
          have HC2 : Hid (CntOk (slotsOf (R.take (k + 1)) ((p : Int) + 1)) (D.put (ixL s.ba s.tx) (.lit (.int .i64 ((ct T s.ba s.tx : Int) + 1))))) := by unfold Hid; rw [HT.out]; exact HCN2.out
          by_cases q2 : 0 < s.ba
          · have q3 : ¬ (n : Int) < 2 * ((ct T s.ba s.tx : Int) + 1) := fun h => hh ⟨q2, h⟩
            clear hh
            go_region
            all_goals go_wp2
            all_goals go_roundw
            all_goals first
              | (case rel => exact ⟨k + 1, by go_num, by omega, HB2.out, _, q + 1, by omega, HO2.out, HC2.out, HN2.out⟩)
              | (case measure => simp [intOf]; omega)
          · clear hh
            go_region
            all_goals go_wp2
            all_goals go_roundw
            all_goals first
              | (case rel => exact ⟨k + 1, by go_num, by omega, HB2.out, _, q + 1, by omega, HO2.out, HC2.out, HN2.out⟩)
              | (case measure => simp [intOf]; omega)
    · have HE : Hid (majR R ix = none) := by
        unfold Hid
        have e : R.take k = R := List.take_of_length_le (by rw [← HNN.out]; omega)
        have h := HNH.out
        rw [e, HNN.out] at h
        exact h.none HOK.out.slots
      go_wp2
      refine bodyPost_ret (v := .tuple #[.string ⟨#[]⟩, .bool false]) (by simp [results, Try.results45, go_sem]) rfl ⟨by rw [HE.out]; rfl, HBr.out⟩
end Go.Proofs.Ytoklnkojacdciaa
